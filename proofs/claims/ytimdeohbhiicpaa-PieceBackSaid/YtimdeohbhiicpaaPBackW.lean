/- PieceBack: the walk. -/
import Derived.Test.YtimdeohbhiicpaaPcK
import Derived.Deep.CutBlock
namespace Go.Proofs.Ytimdeohbhiicpaa
open Go.RowKit rtpApart
set_option linter.unusedVariables false
/-- A piece's variable, and what lies ahead of it. -/
def StP (w0 : World) (g : Nat) (p : PC) (W : World) : Prop := BoxAt W g p ∧ Below w0.heap.size w0 W
theorem StP.step {w0 W W' : World} {g : Nat} {p : PC} (h : StP w0 g p W) (hb : Below W.heap.size W W') : StP w0 g p W' := ⟨h.1.later hb, below_step h.2 hb⟩
theorem StP.start {w0 : World} {g : Nat} {p : PC} (h : BoxAt w0 g p) : StP w0 g p w0 := ⟨h, Below.refl _ _⟩
theorem StP.drew {w0 W : World} {g : Nat} {p : PC} (h : StP w0 g p W) : StP w0 g p W.drew := ⟨h.1, h.2.drew⟩
theorem StP.all {w0 W : World} {g : Nat} {c kd : Int} {bd : ByteArray} (h : StP w0 g ⟨c, kd, bd⟩ W) : W.cell? ⟨g, 0, none⟩ = some (.int .i64 c) ∧ W.cell? ⟨g, 1, none⟩ = some (.int .i64 kd) ∧ W.cell? ⟨g, 2, none⟩ = some (.string bd) ∧ StP w0 g ⟨c, kd, bd⟩ W := by
  obtain ⟨b0, b1, b2, _⟩ := boxAt_S h.1
  exact ⟨b0, b1, b2, h⟩
theorem kinds_snoc (l : List PC) (p : PC) : (kindsL (l ++ [p])).map (Value.int .i64) = (kindsL l).map (Value.int .i64) ++ [Value.int .i64 p.kind] := by simp [kindsL]
theorem kinds_len (l : List PC) : (kindsL l).length = l.length := by simp [kindsL]
def shortL (l : List PC) : Prop := ∀ q ∈ l, q.body.size ≤ 60
theorem shortL_nil : shortL [] := fun p hp => (by cases hp)
theorem shortL_snoc {l : List PC} {p : PC} (h : shortL l) (hs : p.body.size ≤ 60) : shortL (l ++ [p]) := by
  intro q hq
  rcases List.mem_append.1 hq with hq | hq
  · exact h q hq
  · rw [List.mem_singleton] at hq; subst hq; exact hs
theorem all_snoc (l : List PC) (p : PC) : allMay (l ++ [p]) ↔ (allMay l ∧ pcMay p) := by
  refine ⟨fun h => ⟨fun q hq => h q (List.mem_append_left _ hq), h p (List.mem_append_right _ (List.mem_singleton.2 rfl))⟩, fun h q hq => ?_⟩
  rcases List.mem_append.1 hq with hq | hq
  · exact h.1 q hq
  · rw [List.mem_singleton] at hq; subst hq; exact h.2
theorem dec_snoc_t (l : List PC) (p : PC) (h : pcMay p) : decide (allMay (l ++ [p])) = decide (allMay l) := by
  rw [decide_eq_decide, all_snoc]; exact ⟨fun x => x.1, fun x => ⟨x, h⟩⟩
theorem dec_snoc_f (l : List PC) (p : PC) (h : ¬ pcMay p) : decide (allMay (l ++ [p])) = false := by
  rw [decide_eq_false_iff_not, all_snoc]; exact fun x => h x.2
namespace pieceBack
set_option maxRecDepth 100000 in
set_option maxHeartbeats 8000000 in
theorem walk (p0 : Option Addr) (len0 cap0 : Nat) (w : World) (w0 : Recs [isNum .i64, isNum .i64, isText] w p0 len0) (l0 : len0 ≤ 9223372036854775807) :
    Calls Try.prog 6 #[.slice p0 len0 cap0] w fun e w' => e = .returned (.bool true) ∧ Below w.heap.size w w' := by
  obtain ⟨i0, hi0, hz0, hz1, hz2⟩ := info_parts infoPc
  obtain ⟨j0, hj0, hy0, hy1, hy2⟩ := info_parts infoPr
  obtain ⟨k0, hk0, hx0, hx1, hx2⟩ := info_parts infoInt
  obtain ⟨B, hB⟩ : ∃ B, w.heap.size = B := ⟨_, rfl⟩
  have HB := Lib.hid hB
  go_enter Try.func6, Try.ntmps6
  go_wp2_with fail
  refine (pcAwake_any _).mono ?_
  rintro e w2 ⟨rfl, hb0⟩
  rw [hB] at hb0
  clear hB
  go_upto_block 0 with fail
  go_cut [3, 4, 5, 6] (fun v3 v4 v5 v6 wx => ∃ l : List PC, wx.ownsRow B 64 3 v3 l.length (pcsV l) ∧ wx.ownsRow B 63 3 v4 l.length (pcsV l) ∧ wx.ownsRow B 3 1 v5 l.length ((kindsL l).map (Value.int .i64)) ∧ v6 = .bool (decide (allMay l)) ∧ l.length ≤ 8 ∧ Hid (shortL l) ∧ Below B w wx)
  case first =>
    go_wp2_with fail
    go_loopw [3, 4, 5, 6, 7] (fun v3 v4 v5 v6 i wr => ∃ (k : Nat) (l : List PC), k ≤ len0 ∧ k ≤ 8 ∧ i = .int .i64 k ∧ wr.ownsRow B 64 3 v3 l.length (pcsV l) ∧ wr.ownsRow B 63 3 v4 l.length (pcsV l) ∧ wr.ownsRow B 3 1 v5 l.length ((kindsL l).map (Value.int .i64)) ∧ v6 = .bool (decide (allMay l)) ∧ l.length ≤ k ∧ Hid (shortL l) ∧ Below B w wr) (fun _ _ _ _ i _ => 8 - (intOf i).toNat)
    case atStart => exact ⟨0, [], Nat.zero_le _, by decide, rfl, World.ownsRow_nil _ _ _ _, World.ownsRow_nil _ _ _ _, World.ownsRow_nil _ _ _ _, by rw [decide_eq_true (okL_nil.1)], Nat.le_refl _, Lib.hid shortL_nil, hb0⟩
    case round =>
      obtain ⟨k, l, hk, hk5, rfl, hown3, hown4, hown5, rfl, hlk, HM, hb⟩ := hrel
      clear hb0
      by_cases hlt : k < len0
      · by_cases hlt5 : k < 8
        · obtain ⟨b, off, rfl, c, kd, s, hc0, hc1, hc2, hs⟩ := piece_at w0 (by rw [HB.out]; exact hb) hlt
          have HC := Lib.hid (fun W : World => cut_any s 60 W hs (by decide))
          have hsz := (cut_size s 60).1
          obtain ⟨bd, hbd⟩ : ∃ bd, cutB s 60 = bd := ⟨_, rfl⟩
          rw [hbd] at HC hsz
          clear hbd
          have hX4 : BoxAt (wr.alloc (.cells #[.int .i64 c, .int .i64 kd, .string bd] 63)) wr.heap.size ⟨c, kd, bd⟩ := heap_alloc_new wr (.cells #[.int .i64 c, .int .i64 kd, .string bd] 63 (0, 0))
          have hbs : B ≤ wr.heap.size := by rw [← HB.out]; exact hb.size
          go_wp2_with fail
          refine (HC.out _).mono ?_
          rintro e w3 ⟨rfl, rfl⟩
          go_upto_region 12 with fail
          have hown3b := hown3.alloc (.cells #[.int .i64 c, .int .i64 kd, .string bd] 63)
          have hown4b := hown4.alloc (.cells #[.int .i64 c, .int .i64 kd, .string bd] 63)
          have hown5b := hown5.alloc (.cells #[.int .i64 c, .int .i64 kd, .string bd] 63)
          have hn3 := own_lt_ne hown3 wr.heap.size (Nat.le_refl _)
          have hn4 := own_lt_ne hown4 wr.heap.size (Nat.le_refl _)
          have hn5 := own_lt_ne hown5 wr.heap.size (Nat.le_refl _)
          have hbb := hb.alloc hbs (.cells #[.int .i64 c, .int .i64 kd, .string bd] 63)
          have hbs4 : B ≤ (wr.alloc (.cells #[.int .i64 c, .int .i64 kd, .string bd] 63)).heap.size := by simp; omega
          have hg4 : wr.heap.size < (wr.alloc (.cells #[.int .i64 c, .int .i64 kd, .string bd] 63)).heap.size := by simp
          generalize wr.alloc (.cells #[.int .i64 c, .int .i64 kd, .string bd] 63) = w4 at hX4 hown3b hown4b hown5b hbb hbs4 hg4 ⊢
          clear hown3 hown4 hown5 hc0 hc1 hc2 HC
          generalize wr.heap.size = g at hX4 hn3 hn4 hn5 hbs hg4 ⊢
          clear hb
          obtain ⟨b0, b1, b2, _⟩ := boxAt_S hX4
          go_cut [3, 4, 5] (fun v3 v4 v5 wx => wx.ownsRow B 64 3 v3 (l.length + 1) (pcsV (l ++ [⟨c, kd, bd⟩])) ∧ wx.ownsRow B 63 3 v4 (l.length + 1) (pcsV (l ++ [⟨c, kd, bd⟩])) ∧ wx.ownsRow B 3 1 v5 (l.length + 1) ((kindsL (l ++ [⟨c, kd, bd⟩])).map (Value.int .i64)) ∧ BoxAt wx g ⟨c, kd, bd⟩ ∧ Below B w wx)
          case first =>
            go_region_held3 (fun W => W.cell? ⟨g, 0, none⟩ = some (.int .i64 c) ∧ W.cell? ⟨g, 1, none⟩ = some (.int .i64 kd) ∧ W.cell? ⟨g, 2, none⟩ = some (.string bd) ∧ BoxAt W g ⟨c, kd, bd⟩) (first | (go_keep; done) | exact boxAt_S (BoxAt.drew (by go_split_ands; assumption)) | exact boxAt_S (BoxAt.alloc (by go_split_ands; assumption) _) | exact boxAt_S (BoxAt.grew (by go_split_ands; assumption) (by assumption) hn3) | exact boxAt_S (BoxAt.grew (by go_split_ands; assumption) (by assumption) hn4) | exact boxAt_S (BoxAt.grew (by go_split_ands; assumption) (by assumption) hn5) | (go_split_ands; assumption)) (first | ((refine step_app (by rfl) (.tmp 32) (.tmp 34) 54 (by rfl) B 64 i0 (.agg #[.int .i64 0, .int .i64 0, .string { data := #[] }]) 3 32 Try.underlying54 hi0 hz0 hz1 hz2 (by rfl) (by decide) u3 l.length (pcsV l) (by rfl) (by repeat (first | with_reducible exact hown3b | with_reducible refine World.ownsRow.drew ?_ | with_reducible refine World.ownsRow.alloc ?_ _ | with_reducible refine hG4.own (by decide) ?_ | with_reducible refine hG5.own (by decide) ?_)) _ #[.int .i64 c, .int .i64 kd, .string bd] (by rfl) (by repeat (first | with_reducible refine heap_at_drew ?_ | with_reducible exact heap_at_new _ _ _ (by first | rfl | (simp; done)) | with_reducible refine heap_at_old _ _ _ _ ?_ | (with_reducible refine hG4.block ?_ (by first | exact own_lt_ne hown3b _ (by first | omega | (simp; omega) | (have q := hG3.size; simp at q ⊢; omega) | (have q := hG4.size; simp at q ⊢; omega) | (have q := hG5.size; simp at q ⊢; omega)) | exact own_lt_ne hown4b _ (by first | omega | (simp; omega) | (have q := hG3.size; simp at q ⊢; omega) | (have q := hG4.size; simp at q ⊢; omega) | (have q := hG5.size; simp at q ⊢; omega)) | exact own_lt_ne hown5b _ (by first | omega | (simp; omega) | (have q := hG3.size; simp at q ⊢; omega) | (have q := hG4.size; simp at q ⊢; omega) | (have q := hG5.size; simp at q ⊢; omega)))) | (with_reducible refine hG5.block ?_ (by first | exact own_lt_ne hown3b _ (by first | omega | (simp; omega) | (have q := hG3.size; simp at q ⊢; omega) | (have q := hG4.size; simp at q ⊢; omega) | (have q := hG5.size; simp at q ⊢; omega)) | exact own_lt_ne hown4b _ (by first | omega | (simp; omega) | (have q := hG3.size; simp at q ⊢; omega) | (have q := hG4.size; simp at q ⊢; omega) | (have q := hG5.size; simp at q ⊢; omega)) | exact own_lt_ne hown5b _ (by first | omega | (simp; omega) | (have q := hG3.size; simp at q ⊢; omega) | (have q := hG4.size; simp at q ⊢; omega) | (have q := hG5.size; simp at q ⊢; omega)))))) (by rfl) (by intro u hu; simp at hu; rcases hu with rfl | rfl | rfl <;> rfl) (by unfold maxLen; omega) (by omega) (by first | omega | (simp; omega) | (have q := hG4.size; simp at q ⊢; omega) | (have q := hG5.size; simp at q ⊢; omega) | (have q := hG4.size; have q2 := hG5.size; simp at q q2 ⊢; omega)) ?_; intro x3 W3 hN3 hG3)) | ((refine step_app (by rfl) (.tmp 36) (.tmp 38) 57 (by rfl) B 63 j0 (.agg #[.int .i64 0, .int .i64 0, .string { data := #[] }]) 3 32 Try.underlying57 hj0 hy0 hy1 hy2 (by rfl) (by decide) u4 l.length (pcsV l) (by rfl) (by repeat (first | with_reducible exact hown4b | with_reducible refine World.ownsRow.drew ?_ | with_reducible refine World.ownsRow.alloc ?_ _ | with_reducible refine hG3.own (by decide) ?_ | with_reducible refine hG5.own (by decide) ?_)) _ #[.int .i64 c, .int .i64 kd, .string bd] (by rfl) (by repeat (first | with_reducible refine heap_at_drew ?_ | with_reducible exact heap_at_new _ _ _ (by first | rfl | (simp; done)) | with_reducible refine heap_at_old _ _ _ _ ?_ | (with_reducible refine hG3.block ?_ (by first | exact own_lt_ne hown3b _ (by first | omega | (simp; omega) | (have q := hG3.size; simp at q ⊢; omega) | (have q := hG4.size; simp at q ⊢; omega) | (have q := hG5.size; simp at q ⊢; omega)) | exact own_lt_ne hown4b _ (by first | omega | (simp; omega) | (have q := hG3.size; simp at q ⊢; omega) | (have q := hG4.size; simp at q ⊢; omega) | (have q := hG5.size; simp at q ⊢; omega)) | exact own_lt_ne hown5b _ (by first | omega | (simp; omega) | (have q := hG3.size; simp at q ⊢; omega) | (have q := hG4.size; simp at q ⊢; omega) | (have q := hG5.size; simp at q ⊢; omega)))) | (with_reducible refine hG5.block ?_ (by first | exact own_lt_ne hown3b _ (by first | omega | (simp; omega) | (have q := hG3.size; simp at q ⊢; omega) | (have q := hG4.size; simp at q ⊢; omega) | (have q := hG5.size; simp at q ⊢; omega)) | exact own_lt_ne hown4b _ (by first | omega | (simp; omega) | (have q := hG3.size; simp at q ⊢; omega) | (have q := hG4.size; simp at q ⊢; omega) | (have q := hG5.size; simp at q ⊢; omega)) | exact own_lt_ne hown5b _ (by first | omega | (simp; omega) | (have q := hG3.size; simp at q ⊢; omega) | (have q := hG4.size; simp at q ⊢; omega) | (have q := hG5.size; simp at q ⊢; omega)))))) (by rfl) (by intro u hu; simp at hu; rcases hu with rfl | rfl | rfl <;> rfl) (by unfold maxLen; omega) (by omega) (by first | omega | (simp; omega) | (have q := hG3.size; simp at q ⊢; omega) | (have q := hG5.size; simp at q ⊢; omega) | (have q := hG3.size; have q2 := hG5.size; simp at q q2 ⊢; omega)) ?_; intro x4 W4 hN4 hG4)) | ((refine step_app (by rfl) (.tmp 40) (.tmp 43) 34 (by rfl) B 3 k0 (.int .i64 0) 1 8 Try.underlying34 hk0 hx0 hx1 hx2 (by rfl) (by decide) u5 l.length ((kindsL l).map (Value.int .i64)) (by rfl) (by repeat (first | with_reducible exact hown5b | with_reducible refine World.ownsRow.drew ?_ | with_reducible refine World.ownsRow.alloc ?_ _ | with_reducible refine hG3.own (by decide) ?_ | with_reducible refine hG4.own (by decide) ?_)) _ #[.int .i64 kd] (by rfl) (by repeat (first | with_reducible refine heap_at_drew ?_ | with_reducible exact heap_at_new _ _ _ (by first | rfl | (simp; done)) | with_reducible refine heap_at_old _ _ _ _ ?_ | (with_reducible refine hG3.block ?_ (by first | exact own_lt_ne hown3b _ (by first | omega | (simp; omega) | (have q := hG3.size; simp at q ⊢; omega) | (have q := hG4.size; simp at q ⊢; omega) | (have q := hG5.size; simp at q ⊢; omega)) | exact own_lt_ne hown4b _ (by first | omega | (simp; omega) | (have q := hG3.size; simp at q ⊢; omega) | (have q := hG4.size; simp at q ⊢; omega) | (have q := hG5.size; simp at q ⊢; omega)) | exact own_lt_ne hown5b _ (by first | omega | (simp; omega) | (have q := hG3.size; simp at q ⊢; omega) | (have q := hG4.size; simp at q ⊢; omega) | (have q := hG5.size; simp at q ⊢; omega)))) | (with_reducible refine hG4.block ?_ (by first | exact own_lt_ne hown3b _ (by first | omega | (simp; omega) | (have q := hG3.size; simp at q ⊢; omega) | (have q := hG4.size; simp at q ⊢; omega) | (have q := hG5.size; simp at q ⊢; omega)) | exact own_lt_ne hown4b _ (by first | omega | (simp; omega) | (have q := hG3.size; simp at q ⊢; omega) | (have q := hG4.size; simp at q ⊢; omega) | (have q := hG5.size; simp at q ⊢; omega)) | exact own_lt_ne hown5b _ (by first | omega | (simp; omega) | (have q := hG3.size; simp at q ⊢; omega) | (have q := hG4.size; simp at q ⊢; omega) | (have q := hG5.size; simp at q ⊢; omega)))))) (by rfl) (by intro u hu; simp at hu; subst hu; rfl) (by unfold maxLen; omega) (by omega) (by first | omega | (simp; omega) | (have q := hG3.size; simp at q ⊢; omega) | (have q := hG4.size; simp at q ⊢; omega) | (have q := hG3.size; have q2 := hG4.size; simp at q q2 ⊢; omega)) ?_; intro x5 W5 hN5 hG5)))
            all_goals
              go_wp2_with fail
              go_meet
              refine ⟨?_, ?_, ?_, by go_split_ands; assumption, ?_⟩
              · rw [pcsV_snoc]
                show World.ownsRow _ _ _ _ _ (l.length + 1) (pcsV l ++ #[Value.int .i64 c, .int .i64 kd, .string bd].toList)
                (repeat (first | with_reducible exact hN3 | with_reducible refine World.ownsRow.drew ?_ | with_reducible refine World.ownsRow.alloc ?_ _ | with_reducible refine hG4.own (by decide) ?_ | with_reducible refine hG5.own (by decide) ?_))
              · rw [pcsV_snoc]
                show World.ownsRow _ _ _ _ _ (l.length + 1) (pcsV l ++ #[Value.int .i64 c, .int .i64 kd, .string bd].toList)
                (repeat (first | with_reducible exact hN4 | with_reducible refine World.ownsRow.drew ?_ | with_reducible refine World.ownsRow.alloc ?_ _ | with_reducible refine hG3.own (by decide) ?_ | with_reducible refine hG5.own (by decide) ?_))
              · rw [kinds_snoc]
                show World.ownsRow _ _ _ _ _ (l.length + 1) ((kindsL l).map (Value.int .i64) ++ #[Value.int .i64 kd].toList)
                (repeat (first | with_reducible exact hN5 | with_reducible refine World.ownsRow.drew ?_ | with_reducible refine World.ownsRow.alloc ?_ _ | with_reducible refine hG3.own (by decide) ?_ | with_reducible refine hG4.own (by decide) ?_))
              · (repeat (first | with_reducible exact hbb | with_reducible refine Below.drew ?_ | with_reducible refine Below.alloc ?_ (by first | omega | (simp; omega) | (have q := hG3.size; simp at q ⊢; omega) | (have q := hG4.size; simp at q ⊢; omega) | (have q := hG5.size; simp at q ⊢; omega) | (have q := hG3.size; have q2 := hG4.size; simp at q q2 ⊢; omega) | (have q := hG3.size; have q2 := hG5.size; simp at q q2 ⊢; omega) | (have q := hG4.size; have q2 := hG5.size; simp at q q2 ⊢; omega)) _ | with_reducible refine hG3.below (Nat.le_refl _) ?_ | with_reducible refine hG4.below (Nat.le_refl _) ?_ | with_reducible refine hG5.below (Nat.le_refl _) ?_))
          case rest =>
          obtain ⟨hN3, hN4, hN5, hX5, hbz⟩ := hcut
          rename World => w5
          have hbs5 : B ≤ w5.heap.size := by rw [← HB.out]; exact hbz.size
          clear hown3b hown4b hown5b hn3 hn4 hn5 hbb hbs4 hg4 hX4 b0 b1 b2
          by_cases hmp : pcMay ⟨c, kd, bd⟩
          · skip
            have HCk := Lib.hid (fun W => pcCheck_any ⟨c, kd, bd⟩ W (by show bd.size ≤ _; omega) 0 (.inl ⟨rfl, hmp⟩))
            have HMy := Lib.hid (fun W => pcMay_any ⟨c, kd, bd⟩ W (by show bd.size ≤ _; omega) true (by simp [hmp]))
            have HD := Lib.hid (dec_snoc_t l ⟨c, kd, bd⟩ hmp)
            clear hmp
            have hs0 := StP.start hX5
            have hs1 := hs0.drew
            obtain ⟨b0, b1, b2, _⟩ := hs0.all
            go_wp2_with fail
            go_cut [60] (fun z60 wx => z60 = .bool false ∧ StP w5 g ⟨c, kd, bd⟩ wx)
            case first =>
              go_region_law (first | (go_simp; go_at_call 31; refine (HCk.out _).mono ?_; rintro e w' ⟨rfl, hbA⟩; have hst := StP.step (by assumption) hbA; obtain ⟨_, _, _, _⟩ := hst.all) | (go_simp; go_at_call 32; refine (HMy.out _).mono ?_; rintro e w' ⟨rfl, hbA⟩; have hst := StP.step (by assumption) hbA; obtain ⟨_, _, _, _⟩ := hst.all))
              all_goals
                go_wp2_with fail
                go_meet
                exact ⟨rfl, by assumption⟩
            case rest =>
            obtain ⟨rfl, hs6⟩ := hcut
            rename World => w6
            have hN36 := own_laterN hN3 hs6.2
            have hN46 := own_laterN hN4 hs6.2
            have hN56 := own_laterN hN5 hs6.2
            have hb6 := hbz.trans (hs6.2.mono hbs5)
            obtain ⟨b0, b1, b2, _⟩ := hs6.all
            have hbs6 : B ≤ w6.heap.size := by rw [← HB.out]; exact hb6.size
            clear hN3 hN4 hN5 hbz hX5 hs0 hs1 HCk
            generalize hmv : decide (allMay l) = mv at HD ⊢
            have HV := Lib.hid hmv
            clear hmv
            cases mv
            · go_wp2
              go_roundw
              case rel => exact ⟨k + 1, l ++ [⟨c, kd, bd⟩], by omega, by omega, by go_num, by rw [List.length_append]; exact hN36, by rw [List.length_append]; exact hN46, by rw [List.length_append]; exact hN56, by rw [HD.out], by rw [List.length_append]; show l.length + 1 ≤ _; omega, Lib.hid (shortL_snoc HM.out hsz), hb6⟩
              case measure => simp [intOf]; omega
            · go_wp2_with fail
              refine (HMy.out _).mono ?_
              rintro e w7 ⟨rfl, hb7⟩
              have hb8 := hb6.trans (hb7.mono hbs6)
              have hN37 := own_laterN hN36 hb7
              have hN47 := own_laterN hN46 hb7
              have hN57 := own_laterN hN56 hb7
              go_wp2
              go_roundw
              case rel => exact ⟨k + 1, l ++ [⟨c, kd, bd⟩], by omega, by omega, by go_num, by rw [List.length_append]; exact hN37, by rw [List.length_append]; exact hN47, by rw [List.length_append]; exact hN57, by rw [HD.out], by rw [List.length_append]; show l.length + 1 ≤ _; omega, Lib.hid (shortL_snoc HM.out hsz), hb8⟩
              case measure => simp [intOf]; omega
          · skip
            have HCk := Lib.hid (fun W => pcCheck_any ⟨c, kd, bd⟩ W (by show bd.size ≤ _; omega) 6 (.inr ⟨rfl, hmp⟩))
            have HMy := Lib.hid (fun W => pcMay_any ⟨c, kd, bd⟩ W (by show bd.size ≤ _; omega) false (by simp [hmp]))
            have HD := Lib.hid (dec_snoc_f l ⟨c, kd, bd⟩ hmp)
            clear hmp
            have hs0 := StP.start hX5
            have hs1 := hs0.drew
            obtain ⟨b0, b1, b2, _⟩ := hs0.all
            go_wp2_with fail
            go_cut [60] (fun z60 wx => z60 = .bool false ∧ StP w5 g ⟨c, kd, bd⟩ wx)
            case first =>
              go_region_held3 (fun W => W.cell? ⟨g, 0, none⟩ = some (.int .i64 c) ∧ W.cell? ⟨g, 1, none⟩ = some (.int .i64 kd) ∧ W.cell? ⟨g, 2, none⟩ = some (.string bd) ∧ StP w5 g ⟨c, kd, bd⟩ W) (first | (go_keep; done) | exact StP.all (StP.drew (by go_split_ands; assumption)) | exact StP.all (StP.step (by go_split_ands; assumption) (by assumption)) | (go_split_ands; assumption)) (first | (go_at_call 31; refine (HCk.out _).mono ?_; rintro e w' ⟨rfl, hbA⟩) | (go_at_call 32; refine (HMy.out _).mono ?_; rintro e w' ⟨rfl, hbA⟩))
              all_goals
                go_wp2_with fail
                go_meet
                exact ⟨rfl, by go_split_ands; assumption⟩
            case rest =>
            obtain ⟨rfl, hs6⟩ := hcut
            rename World => w6
            have hN36 := own_laterN hN3 hs6.2
            have hN46 := own_laterN hN4 hs6.2
            have hN56 := own_laterN hN5 hs6.2
            have hb6 := hbz.trans (hs6.2.mono hbs5)
            obtain ⟨b0, b1, b2, _⟩ := hs6.all
            have hbs6 : B ≤ w6.heap.size := by rw [← HB.out]; exact hb6.size
            clear hN3 hN4 hN5 hbz hX5 hs0 hs1 HCk
            generalize hmv : decide (allMay l) = mv at HD ⊢
            have HV := Lib.hid hmv
            clear hmv
            cases mv
            · go_wp2
              go_roundw
              case rel => exact ⟨k + 1, l ++ [⟨c, kd, bd⟩], by omega, by omega, by go_num, by rw [List.length_append]; exact hN36, by rw [List.length_append]; exact hN46, by rw [List.length_append]; exact hN56, by rw [HD.out], by rw [List.length_append]; show l.length + 1 ≤ _; omega, Lib.hid (shortL_snoc HM.out hsz), hb6⟩
              case measure => simp [intOf]; omega
            · go_wp2_with fail
              refine (HMy.out _).mono ?_
              rintro e w7 ⟨rfl, hb7⟩
              have hb8 := hb6.trans (hb7.mono hbs6)
              have hN37 := own_laterN hN36 hb7
              have hN47 := own_laterN hN46 hb7
              have hN57 := own_laterN hN56 hb7
              go_wp2
              go_roundw
              case rel => exact ⟨k + 1, l ++ [⟨c, kd, bd⟩], by omega, by omega, by go_num, by rw [List.length_append]; exact hN37, by rw [List.length_append]; exact hN47, by rw [List.length_append]; exact hN57, by rw [HD.out], by rw [List.length_append]; show l.length + 1 ≤ _; omega, Lib.hid (shortL_snoc HM.out hsz), hb8⟩
              case measure => simp [intOf]; omega
        · go_wp2
          go_meet
          exact ⟨l, hown3, hown4, hown5, rfl, by omega, HM, hb⟩
      · go_wp2
        go_meet
        exact ⟨l, hown3, hown4, hown5, rfl, by omega, HM, hb⟩
  case rest =>
  obtain ⟨l, hown3, hown4, hown5, hmv, hl8, HM, hb1⟩ := hcut
  rename World => wb
  obtain ⟨a3, c3, rfl, _, _, _, hr3⟩ := own_readsP hown3
  obtain ⟨a4, c4, rfl, _, _, _, hr4⟩ := own_readsP hown4
  obtain ⟨a5, c5, rfl, hn5, _, _, hr5⟩ := own_reads hown5
  have HN5 := Lib.hid hn5
  clear hn5 hown3 hown4 hown5
  have hbz : Below w.heap.size w wb := by rw [HB.out]; exact hb1
  have HP := Lib.hid (fun W (hr : ReadsP W a3 l) => pcPack_any l a3 c3 W hr (by omega) (fun q hq => Nat.le_trans (HM.out q hq) (by decide)))
  have HR := Lib.hid (fun W (hr : ReadsP W a4 l) => pcRefPack_any l a4 c4 W hr (by omega) (fun q hq => Nat.le_trans (HM.out q hq) (by decide)))
  have hK0 := (fun W (hr : ReadsP W a3 l) => kinds_any l a3 c3 W hr (by omega))
  rw [← HN5.out] at hK0
  have HK := Lib.hid hK0
  clear hK0
  have HSm := Lib.hid (fun (a a2 : Option Addr) (n c c2 : Nat) W (hn : n = (kindsL l).length) (hr : Reads .i64 W a (kindsL l)) (hr2 : Reads .i64 W a2 (kindsL l)) => sameInts_any (kindsL l) a a2 n c c2 W hn hr hr2 (by rw [kinds_len]; omega))
  have HI := Lib.hid (fun (a a2 : Option Addr) (c c2 : Nat) (W : World) (hr : ReadsP W a l) (hr2 : ReadsP W a2 l) => is_any l a a2 c c2 W hr hr2 (by omega))
  clear hb1 hb0
  have hsz := pcsL_len_le l 60 HM.out
  have hs9 : (pcsS l).size ≤ 1000000000 := by
    unfold pcsS
    split
    · rw [ofL_size]
      have : l.length * (4 + 60) ≤ 8 * (4 + 60) := Nat.mul_le_mul_right _ hl8
      omega
    · exact Nat.zero_le _
  clear hsz
  have hS0 := fun W => split_any (pcsS l) W hs9
  unfold Splitted at hS0
  have hbad : decide (allMay l) = false → pcsS l = { data := #[] } := fun h => by unfold pcsS; rw [if_neg (by simpa using h)]
  have hgood : decide (allMay l) = true → (split (pcsS l)).1 = 0 ∧ finL (pcsS l) = l := fun h => by
    have ha : allMay l := by simpa using h
    rw [pcsS_good l ha]
    unfold finL
    rw [split_pack l ha, if_pos rfl]
    exact ⟨rfl, rfl⟩
  generalize finL (pcsS l) = fl at hS0 hgood
  generalize (split (pcsS l)).1 = er at hS0 hgood
  generalize decide (allMay l) = mv at hmv hbad hgood
  subst hmv
  obtain ⟨nl, hnl⟩ : ∃ nl, l.length = nl := ⟨_, rfl⟩
  have hes := isEmpty_size (pcsS l)
  have HBad := Lib.hid hbad
  have HGood := Lib.hid hgood
  have HS := Lib.hid hS0
  clear hbad hgood hS0 hnl
  have HES : Hid (pcsS l = { data := #[] } → (pcsS l).toList.isEmpty = true) := fun h => by rw [h, isEmpty_size]; rfl
  clear hes
  generalize pcsS l = T at HP HR HS HBad hs9 HES
  have htt : (T.toList == T.toList) = true := by simp
  go_wp2_with fail
  refine (HP.out _ hr3).mono ?_
  rintro e w5 ⟨rfl, hb5⟩
  have hz5 := hbz.trans (hb5.mono hbz.size)
  have hr35 := hr3.later hb5
  have hr45 := hr4.later hb5
  have hr55 := hr5.later hb5
  clear hbz hr3 hr4 hr5 hb5
  go_wp2_with fail
  refine (HR.out _ hr45).mono ?_
  rintro e w6 ⟨rfl, hb6⟩
  have hz6 := hz5.trans (hb6.mono hz5.size)
  have hr36 := hr35.later hb6
  have hr46 := hr45.later hb6
  have hr56 := hr55.later hb6
  clear hz5 hr35 hr45 hr55 hb6
  go_wp2_with fail
  refine (HK.out _ hr36).mono ?_
  rintro e w7 ⟨hb7, a7, c7, rfl, hr7⟩
  have hz7 := hz6.trans (hb7.mono hz6.size)
  have hr37 := hr36.later hb7
  have hr47 := hr46.later hb7
  have hr57 := hr56.later hb7
  clear hz6 hr36 hr46 hr56 hb7
  go_wp2_with fail
  refine (HSm.out a7 a5 l.length c7 c5 _ HN5.out hr7 hr57).mono ?_
  rintro e w8 ⟨rfl, hb8⟩
  have hz8 := hz7.trans (hb8.mono hz7.size)
  have hr38 := hr37.later hb8
  have hr48 := hr47.later hb8
  clear hz7 hr37 hr47 hr57 hr7 hb8
  cases mv
  · have hT := HES.out (HBad.out rfl)
    go_wp2
    go_ret
    exact ⟨rfl, hz8⟩
  · obtain ⟨q1, q2⟩ := HGood.out rfl
    subst q1 q2
    go_wp2_with fail
    refine (HS.out _).mono ?_
    rintro e w9 ⟨hb9, a9, c9, rfl, hr9⟩
    have hz9 := hz8.trans (hb9.mono hz8.size)
    have hr49 := hr48.later hb9
    clear hz8 hr48 hr38 hb9
    go_wp2_with fail
    refine (HI.out a9 a4 c9 c4 _ hr9 hr49).mono ?_
    rintro e w10 ⟨rfl, hb10⟩
    go_wp2
    go_ret
    exact ⟨rfl, hz9.trans (hb10.mono hz9.size)⟩
end pieceBack
end Go.Proofs.Ytimdeohbhiicpaa
