/- gaps: Due in general. -/
import Derived.Test.YtdbmhgfdcdcgfaaGpL
namespace Go.Proofs.Ytdbmhgfdcdcgfaa
open Go.RowKit
set_option linter.unusedVariables false
set_option linter.unusedSimpArgs false
set_option maxRecDepth 100000 in
set_option maxHeartbeats 3200000 in
theorem gpDue_some {w : World} {base gg g off cap : Nat} {c : GC} {cm : Bool} {gr : Int} {l : List GW} {gv : Int} (h : GIn w base gg c cm gr (.slice (some ⟨g, off, none⟩) l.length cap) l gv) (now : Int) (hgv : 0 ≤ gv ∧ gv ≤ 1152921504606846976) :
    Calls Try.prog 15 #[.pointer (some ⟨gg, 0, none⟩), .int .i64 now] w fun e w' => ∃ dv v', e = .returned dv ∧ OwnE w' w.heap.size 3 1 dv (gpDueD c (gpK now) l).length ((gpDueD c (gpK now) l).map (Value.int .i64)) ∧ GIn w' base gg c cm gr v' (gpDueK c (gpK now) l) (gv + ((l.length : Int) - (gpDueK c (gpK now) l).length)) ∧ Below base w w' ∧ KeptG w w' := by
  obtain ⟨i0, hi, hz0, hz1, hz2⟩ := info_parts info_pkt
  obtain ⟨j0, hj, hy0, hy1, hy2⟩ := info_parts info64g
  have HT := Lib.hid (gpTick_q now w)
  have HI := Lib.hid h
  have hsm := h.small
  have hX := h.at8
  have hO := h.own
  have hkb := gpK_bd now
  have hbz : base ≤ w.heap.size := by have := h.at8.lt; have := h.bs; omega
  have hglt : g < w.heap.size := (h.own.1.lt g rfl).2
  have hgglt : gg < w.heap.size := h.at8.lt
  have hgg : gg ≠ g := fun e => h.apart (by rw [e]; rfl)
  obtain ⟨_, _, e, hnc, hcm, _, _⟩ := h.own.rdg
  cases e
  have hX := h.at8
  obtain ⟨_, _, _, _, _, _, _, _⟩ := h.at8.cells
  generalize hy : gpK now = y at *
  have HY := Lib.hid hy
  clear hy
  have HTK := Lib.hid (gpDueK_take c y l)
  have HTD := Lib.hid (gpDueD_take c y l)
  have HLK := Lib.hid (fun k => gpDueK_len c y (l.take k))
  have HLD := Lib.hid (fun k => gpDueD_len c y (l.take k))
  clear h
  go_enter Try.func15, Try.ntmps15
  go_wp2_with fail
  refine HT.out.mono ?_
  rintro e w5 ⟨rfl, rfl⟩
  generalize hgs : w5.heap.size = gs at *
  have HGS := Lib.hid hgs
  clear hgs
  go_wp2_with fail
  go_loopw [5, 6, 21] (fun d f i wr => ∃ (k : Nat) (X : List Value), k ≤ l.length ∧ i = .int .i64 k ∧ f = .slice (some ⟨g, off, none⟩) (gpDueK c y (l.take k)).length cap ∧ OwnE wr base 69 4 (.slice (some ⟨g, off, none⟩) l.length cap) l.length X ∧ X.take ((gpDueK c y (l.take k)).length * 4) = gpV c.a (gpDueK c y (l.take k)) ∧ X.drop (k * 4) = gpV c.a (l.drop k) ∧ OwnE wr gs 3 1 d (gpDueD c y (l.take k)).length ((gpDueD c y (l.take k)).map (Value.int .i64)) ∧ At8 57 wr gg (.int .i64 c.m) (.int .i64 c.t) (.int .i64 c.f) (.int .i64 c.a) (.bool cm) (.int .i64 gr) (.slice (some ⟨g, off, none⟩) l.length cap) (.int .i64 gv) ∧ Below base w5 wr ∧ KeptG w5 wr) (fun d f i _ => l.length - (intOf i).toNat)
  case atStart => exact ⟨0, gpV c.a l, Nat.zero_le _, rfl, by simp [gpDueK], hO, by simp [gpDueK, gpV, rowsV], by simp, by simpa [gpDueD] using ownE_nil _ _ _ _, hX, Below.refl _ _, KeptG.refl _⟩
  case round =>
    obtain ⟨k, X, hk, rfl, rfl, hOr, hXt, hXd, hOd, hX8, hb, hK⟩ := hrel
    clear hO hX
    have hlk := HLK.out k
    have hld := HLD.out k
    rw [List.length_take, Nat.min_eq_left hk] at hlk hld
    obtain ⟨_, _, _, _, _, _, _, _⟩ := hX8.cells
    by_cases hlt : k < l.length
    · obtain ⟨r, hr⟩ : ∃ r, l[k]? = some r := ⟨_, List.getElem?_eq_getElem hlt⟩
      have HK1 := Lib.hid (HTK.out k r hr)
      have HD1 := Lib.hid (HTD.out k r hr)
      have hrk := (HI.out.ab r (List.mem_of_getElem? hr)).2.2
      have hXr : ∀ (q : Nat) (u : Value), (r.cs c.a)[q]? = some u → X[k * 4 + q]? = some u := fun q u hu => by
        have h1 := rowsV_at (GW.cs_len c.a) (l.drop k) 0 r (by rw [List.getElem?_drop]; exact hr) q u hu
        rw [Nat.zero_mul, Nat.zero_add, show rowsV (GW.cs c.a) (l.drop k) = X.drop (k * 4) from hXd.symm, List.getElem?_drop] at h1
        exact h1
      obtain ⟨gz, oz, cz, ez, _, _, _, _, hcell⟩ := hOr.row (by omega)
      cases ez
      have c0 := (hcell _ _ (hXr 0 _ rfl)).1
      have c1 := (hcell _ _ (hXr 1 _ rfl)).1
      have c2 := (hcell _ _ (hXr 2 _ rfl)).1
      have c3 := (hcell _ _ (hXr 3 _ rfl)).1
      rw [Nat.add_zero] at c0
      rw [← Nat.add_assoc] at c1 c2 c3
      clear hcell hXr
      have hXd1 : X.drop ((k + 1) * 4) = gpV c.a (l.drop (k + 1)) := by
        rw [← gpV_drop, show (k + 1) * 4 = k * 4 + 4 by omega, ← List.drop_drop, hXd, ← gpV_drop, List.drop_drop]
      have hXl : X.length = l.length * 4 := hOr.1.1
      have hwt := wtR_bd c.a HI.out.ok.2.2.2 r.k
      have hab := HI.out.ab r (List.mem_of_getElem? hr)
      obtain ⟨n, at_, kk⟩ := r
      simp only at c0 c1 c2 c3 HK1 HD1 hrk hwt hab
      have HC4 := Lib.hid (show (⟨n, at_, kk⟩ : GW).cs c.a = [.int .i64 n, .int .i64 at_, .int .i64 (wtR c.a kk), .int .i64 kk] from rfl)
      have hP := at4_new 69 wr wr.heap.size (.int .i64 n) (.int .i64 at_) (.int .i64 (wtR c.a kk)) (.int .i64 kk) rfl
      have hal : Below wr.heap.size wr (wr.alloc (.cells #[.int .i64 n, .int .i64 at_, .int .i64 (wtR c.a kk), .int .i64 kk] 69)) := (Below.refl _ _).alloc (Nat.le_refl _) _
      have hsz : gs ≤ wr.heap.size := by have := hb.size; have := HGS.out; omega
      have hO3 := hOr.later hal
      have hD3 := hOd.later hal
      have hX3 := hX8.later hal
      have hb3 := hb.trans (hal.mono (by omega))
      have hK3 := hK.trans (keptG_below hal)
      have hsz3 := hal.size
      go_upto_region 7 with fail
      generalize (wr.alloc (.cells #[.int .i64 n, .int .i64 at_, .int .i64 (wtR c.a kk), .int .i64 kk] 69)) = w3 at hP hO3 hD3 hX3 hb3 hK3 hsz3 ⊢
      generalize wr.heap.size = g3 at hP hsz hsz3 ⊢
      clear hOr hOd hX8 hb hK hal c0 c1 c2 c3 hXd hr
      generalize gpDueK c y (l.take k) = LK at *
      generalize gpDueD c y (l.take k) = LD at *
      generalize hwt0 : wtR c.a kk = wt at *
      have HWT := Lib.hid hwt0
      clear hwt0
      obtain ⟨_, _, _, _⟩ := hP.cells
      by_cases hA : y < at_
      · have hd : decide (y < at_) = true := by simp; omega
        have HK2 := Lib.hid (show duK1 c y ⟨n, at_, kk⟩ = [⟨n, at_, kk⟩] by unfold duK1; rw [if_pos hA])
        have HD2 := Lib.hid (show duD1 c y ⟨n, at_, kk⟩ = [] by unfold duD1; rw [if_pos hA])
        have hOa := hO3.alloc (.cells #[.int .i64 n, .int .i64 at_, .int .i64 wt, .int .i64 kk] 69)
        have hspare : ∀ q, q < cap * 4 → ((w3.alloc (.cells #[.int .i64 n, .int .i64 at_, .int .i64 wt, .int .i64 kk] 69)).cell? ⟨g, off + q, none⟩).isSome = true ∧ (w3.alloc (.cells #[.int .i64 n, .int .i64 at_, .int .i64 wt, .int .i64 kk] 69)).frozen? ⟨g, off + q, none⟩ = false := by
          rcases hOa.1.2 with ⟨e, _⟩ | ⟨g', off', cap', e, _, _, _, _, q5, _⟩
          · cases e
          · cases e; exact q5
        have HSP : Hid (∀ j, j < 4 → ((w3.alloc (.cells #[.int .i64 n, .int .i64 at_, .int .i64 wt, .int .i64 kk] 69)).cell? ⟨g, off + LK.length * 4 + j, none⟩).isSome = true ∧ (w3.alloc (.cells #[.int .i64 n, .int .i64 at_, .int .i64 wt, .int .i64 kk] 69)).frozen? ⟨g, off + LK.length * 4 + j, none⟩ = false) := Lib.hid fun j hj => by
          rw [Nat.add_assoc]
          exact hspare _ (by omega)
        have hOs := hOa.setMany [.int .i64 n, .int .i64 at_, .int .i64 wt, .int .i64 kk] (LK.length * 4) (by simp; omega)
        have ho4 := setCells_only g [.int .i64 n, .int .i64 at_, .int .i64 wt, .int .i64 kk] (off + LK.length * 4) (w3.alloc (.cells #[.int .i64 n, .int .i64 at_, .int .i64 wt, .int .i64 kk] 69))
        have HRP := Lib.hid (row_put X [.int .i64 n, .int .i64 at_, .int .i64 wt, .int .i64 kk] LK.length k l.length (gpV c.a LK) (gpV c.a (l.drop (k + 1))) hXl hlk hlt rfl hXt hXd1)
        clear hspare
        go_wp2_with (at_builtin; refine append_roomG rfl (.tmp 30) (.tmp 32) 55 rfl 69 i0 4 Try.underlying55 hi hz1 g off LK.length cap rfl #[.int .i64 n, .int .i64 at_, .int .i64 wt, .int .i64 kk] rfl rfl ?d1 ?d2 HSP.out ?_)
        case d1 => simp [Value.oneCell']
        case d2 => omega
        have hbg : base ≤ g := (hO3.1.lt g rfl).1
        have hala : Below w3.heap.size w3 (w3.alloc (.cells #[.int .i64 n, .int .i64 at_, .int .i64 wt, .int .i64 kk] 69)) := (Below.refl _ _).alloc (Nat.le_refl _) _
        have hX4 := (hX3.later hala).only hgg ho4
        have hK4 : KeptG w3 _ := (keptG_below hala).trans (keptG_row (row := some g) (fun q hq => hOa.2 q hq) (only_grown ho4))
        have hD4 := hD3.keptG hK4 (by decide) (by decide)
        have hb4 := (hb3.trans (hala.mono (by omega))).trans (ho4.below hbg)
        have hKK4 := hK3.trans hK4
        have hO4 := hOs
        generalize ((w3.alloc (.cells #[.int .i64 n, .int .i64 at_, .int .i64 wt, .int .i64 kk] 69)).setCells g (off + LK.length * 4) [.int .i64 n, .int .i64 at_, .int .i64 wt, .int .i64 kk]) = w6 at hX4 hD4 hb4 hKK4 hO4 ⊢
        generalize hX' : (X.take (LK.length * 4) ++ [Value.int .i64 n, .int .i64 at_, .int .i64 wt, .int .i64 kk] ++ X.drop (LK.length * 4 + [Value.int .i64 n, .int .i64 at_, .int .i64 wt, .int .i64 kk].length)) = X' at hO4 HRP
        clear hOs ho4 hOa hX3 hD3 hO3 hb3 hK3 hK4 hala HSP hX' hP
        go_wp2_with fail
        go_roundw
        case rel =>
          refine ⟨k + 1, X', by omega, by go_num, by rw [HK1.out, HK2.out, List.length_append]; rfl, hO4, ?_, HRP.out.2, ?_, hX4, hb4, hKK4⟩
          · rw [HK1.out, HK2.out, List.length_append, gpV_snoc, HC4.out]
            exact HRP.out.1
          · rw [HD1.out, HD2.out, List.append_nil]
            exact hD4
        case measure => simp [intOf]; omega
      · obtain ⟨_, _, _, _, _, _, _, _⟩ := hX3.cells
        have hd : decide (y < at_) = false := by simp; omega
        by_cases hB : (kk : Int) < c.t
        · have hd2 : decide ((kk : Int) < c.t) = true := by simp; omega
          have HK2 := Lib.hid (show duK1 c y ⟨n, at_, kk⟩ = [⟨n, y + wtR c.a kk, kk + 1⟩] by unfold duK1; rw [if_neg hA, if_pos hB])
          have HD2 := Lib.hid (show duD1 c y ⟨n, at_, kk⟩ = [n] by unfold duD1; rw [if_neg hA, if_pos hB])
          have HASK := Lib.hid (fun W => gpAsk_q 0 y ⟨n, at_, kk⟩ c.a W HI.out.ok.2.2.2 (by show kk ≤ 100; omega) hkb)
          have HC5 := Lib.hid (show (⟨n, y + wtR c.a kk, kk + 1⟩ : GW).cs c.a = [.int .i64 n, .int .i64 (y + wtR c.a kk), .int .i64 (wtR c.a (kk + 1)), .int .i64 ((kk : Int) + 1)] from rfl)
          simp only at HASK
          rw [HWT.out] at HASK HC5 HK2
          generalize wtR c.a (kk + 1) = wt2 at *
          go_upto_region 9 with fail
          go_quiet (fail)
          have hw5 := below_drewN (Below.refl w3.heap.size w3) nq
          have hO5 := hO3.later hw5
          have hD5 := hD3.later hw5
          have hX5 := hX3.later hw5
          have hP5 : At4 69 (w3.drewN nq) g3 (.int .i64 n) (.int .i64 at_) (.int .i64 wt) (.int .i64 kk) := hP
          have hb5 := hb3.trans (hw5.mono (by omega))
          have hK5 := hK3.trans (keptG_below hw5)
          have hsz5 : gs ≤ (w3.drewN nq).heap.size := by show gs ≤ w3.heap.size; omega
          generalize w3.drewN nq = w4 at hO5 hD5 hX5 hP5 hb5 hK5 hsz5 ⊢
          clear hw5 hO3 hD3 hX3 hb3 hK3 hP hsz3
          obtain ⟨_, _, _, _⟩ := hP5.cells
          obtain ⟨ad0, cd0, rfl⟩ := hD5.formG
          go_wp2_with (at_builtin; refine append_recG (W := w4) rfl (.tmp 43) (.tmp 46) 45 rfl 3 j0 (.int .i64 0) 1 8 Try.underlying45 hj hy0 hy1 hy2 rfl (by decide) gs _ LD.length _ rfl hD5 #[.int .i64 n] rfl rfl ?e0 ?e1 ?e2 hsz5 gs (Nat.le_refl _) (Below.refl _ _) ?_)
          case e0 => simp [Value.oneCell']
          case e1 => unfold maxLen; omega
          case e2 => omega
          intro v6 w6 hD6 hb6 hg6 hf6
          obtain ⟨a6, c6, rfl⟩ := hD6.formG
          have hX6 : At8 57 w6 gg (.int .i64 c.m) (.int .i64 c.t) (.int .i64 c.f) (.int .i64 c.a) (.bool cm) (.int .i64 gr) (.slice (some ⟨g, off, none⟩) l.length cap) (.int .i64 gv) := by
            unfold At8
            rw [hb6.block gg hgglt]
            exact hX5
          have hO6 := hO5.keep hb6.size (fun q cs hq _ => hb6.block q (by cases hq; exact hglt))
          have hP6 : At4 69 w6 g3 (.int .i64 n) (.int .i64 at_) (.int .i64 wt) (.int .i64 kk) := by
            have h1 := hP5.later ((Below.refl _ _).alloc (Nat.le_refl _) (.cells #[.int .i64 n] 3))
            unfold At4 at h1 ⊢
            rw [hg6.block g3 (lt_of_block h1) (fun e => ?_)]
            · exact h1
            · obtain ⟨cs, hcs⟩ := hD5.2 g3 e.symm
              unfold At4 at hP5
              rw [hP5] at hcs
              simp only [Option.some.injEq, Obj.cells.injEq] at hcs
              exact absurd hcs.2.1 (by decide)
          have hb6b := hb5.trans (hb6.mono hbz)
          have hK6 : KeptG w5 w6 := ⟨hb6b.size, fun q o hq h2 => by rw [hb6.block q (by have := lt_of_objG hq; have := HGS.out; omega)]; exact hK5.block q o hq h2⟩
          have hsz6 : gs ≤ w6.heap.size := Nat.le_trans hsz5 hb6.size
          clear hO5 hD5 hX5 hP5 hb5 hK5 hb6 hg6 hf6
          obtain ⟨_, _, _, _⟩ := hP6.cells
          go_wp2_with fail
          refine (HASK.out _).mono ?_
          rintro e w7 ⟨rfl, hk7⟩
          have hO7 := hO6.later hk7
          have hD7 := hD6.later hk7
          have hX7 := hX6.later hk7
          have hb7 := hb6b.trans (hk7.mono (by omega))
          have hK7 := hK6.trans (keptG_below hk7)
          have hsz7 : gs ≤ w7.heap.size := Nat.le_trans hsz6 hk7.size
          clear hO6 hD6 hX6 hb6b hK6 hk7 hP6
          have hOa := hO7.alloc (.cells #[.int .i64 n, .int .i64 (y + wt), .int .i64 wt2, .int .i64 ((kk : Int) + 1)] 69)
          have hspare : ∀ q, q < cap * 4 → ((w7.alloc (.cells #[.int .i64 n, .int .i64 (y + wt), .int .i64 wt2, .int .i64 ((kk : Int) + 1)] 69)).cell? ⟨g, off + q, none⟩).isSome = true ∧ (w7.alloc (.cells #[.int .i64 n, .int .i64 (y + wt), .int .i64 wt2, .int .i64 ((kk : Int) + 1)] 69)).frozen? ⟨g, off + q, none⟩ = false := by
            rcases hOa.1.2 with ⟨e, _⟩ | ⟨g', off', cap', e, _, _, _, _, q5, _⟩
            · cases e
            · cases e; exact q5
          have HSP : Hid (∀ j, j < 4 → ((w7.alloc (.cells #[.int .i64 n, .int .i64 (y + wt), .int .i64 wt2, .int .i64 ((kk : Int) + 1)] 69)).cell? ⟨g, off + LK.length * 4 + j, none⟩).isSome = true ∧ (w7.alloc (.cells #[.int .i64 n, .int .i64 (y + wt), .int .i64 wt2, .int .i64 ((kk : Int) + 1)] 69)).frozen? ⟨g, off + LK.length * 4 + j, none⟩ = false) := Lib.hid fun j hj => by
            rw [Nat.add_assoc]
            exact hspare _ (by omega)
          have hOs := hOa.setMany [.int .i64 n, .int .i64 (y + wt), .int .i64 wt2, .int .i64 ((kk : Int) + 1)] (LK.length * 4) (by simp; omega)
          have ho4 := setCells_only g [.int .i64 n, .int .i64 (y + wt), .int .i64 wt2, .int .i64 ((kk : Int) + 1)] (off + LK.length * 4) (w7.alloc (.cells #[.int .i64 n, .int .i64 (y + wt), .int .i64 wt2, .int .i64 ((kk : Int) + 1)] 69))
          have HRP := Lib.hid (row_put X [.int .i64 n, .int .i64 (y + wt), .int .i64 wt2, .int .i64 ((kk : Int) + 1)] LK.length k l.length (gpV c.a LK) (gpV c.a (l.drop (k + 1))) hXl hlk hlt rfl hXt hXd1)
          clear hspare
          go_wp2_with (at_builtin; refine append_roomG rfl (.tmp 48) (.tmp 52) 55 rfl 69 i0 4 Try.underlying55 hi hz1 g off LK.length cap rfl #[.int .i64 n, .int .i64 (y + wt), .int .i64 wt2, .int .i64 ((kk : Int) + 1)] rfl rfl ?d1 ?d2 HSP.out ?_)
          case d1 => simp [Value.oneCell']
          case d2 => omega
          have hbg : base ≤ g := (hO7.1.lt g rfl).1
          have hala : Below w7.heap.size w7 (w7.alloc (.cells #[.int .i64 n, .int .i64 (y + wt), .int .i64 wt2, .int .i64 ((kk : Int) + 1)] 69)) := (Below.refl _ _).alloc (Nat.le_refl _) _
          have hX4 := (hX7.later hala).only hgg ho4
          have hK4 : KeptG w7 _ := (keptG_below hala).trans (keptG_row (row := some g) (fun q hq => hOa.2 q hq) (only_grown ho4))
          have hD4 := hD7.keptG hK4 (by decide) (by decide)
          have hb4 := (hb7.trans (hala.mono (by omega))).trans (ho4.below hbg)
          have hKK4 := hK7.trans hK4
          have hO4 := hOs
          generalize ((w7.alloc (.cells #[.int .i64 n, .int .i64 (y + wt), .int .i64 wt2, .int .i64 ((kk : Int) + 1)] 69)).setCells g (off + LK.length * 4) [.int .i64 n, .int .i64 (y + wt), .int .i64 wt2, .int .i64 ((kk : Int) + 1)]) = w8 at hX4 hD4 hb4 hKK4 hO4 ⊢
          generalize hX' : (X.take (LK.length * 4) ++ [Value.int .i64 n, .int .i64 (y + wt), .int .i64 wt2, .int .i64 ((kk : Int) + 1)] ++ X.drop (LK.length * 4 + [Value.int .i64 n, .int .i64 (y + wt), .int .i64 wt2, .int .i64 ((kk : Int) + 1)].length)) = X' at hO4 HRP
          clear hOs ho4 hOa hX7 hD7 hO7 hb7 hK7 hK4 hala HSP hX'
          go_wp2_with fail
          go_roundw
          case rel =>
            refine ⟨k + 1, X', by omega, by go_num, by rw [HK1.out, HK2.out, List.length_append]; rfl, hO4, ?_, HRP.out.2, ?_, hX4, hb4, hKK4⟩
            · rw [HK1.out, HK2.out, List.length_append, gpV_snoc, HC5.out]
              exact HRP.out.1
            · rw [HD1.out, HD2.out, List.map_append, List.length_append]
              exact hD4
          case measure => simp [intOf]; omega
        · have hd2 : decide ((kk : Int) < c.t) = false := by simp; omega
          have HK2 := Lib.hid (show duK1 c y ⟨n, at_, kk⟩ = [] by unfold duK1; rw [if_neg hA, if_neg hB])
          have HD2 := Lib.hid (show duD1 c y ⟨n, at_, kk⟩ = [] by unfold duD1; rw [if_neg hA, if_neg hB])
          go_upto_region 9 with fail
          go_quiet (fail)
          have hw5 := below_drewN (Below.refl w3.heap.size w3) nq
          have hO5 := hO3.later hw5
          have hD5 := hD3.later hw5
          have hX5 := hX3.later hw5
          have hb5 := hb3.trans (hw5.mono (by omega))
          have hK5 := hK3.trans (keptG_below hw5)
          clear hw5 hO3 hD3 hX3 hb3 hK3
          go_wp2_with fail
          go_roundw
          case rel => exact ⟨k + 1, X, by omega, by go_num, by rw [HK1.out, HK2.out, List.append_nil], hO5, by rw [HK1.out, HK2.out, List.append_nil]; exact hXt, hXd1, by rw [HD1.out, HD2.out, List.append_nil]; exact hD5, hX5, hb5, hK5⟩
          case measure => simp [intOf]; omega
    · obtain rfl : k = l.length := by omega
      rw [List.take_length] at hXt hOd hlk hld ⊢
      have hin := fun (W : World) (v' : Value) (gv' : Int) h8 N hO => gpDue_in (W := W) (v' := v') (gv' := gv') HI.out y hkb h8 N hO
      generalize hLK : gpDueK c y l = LK at *
      have HLK2 := Lib.hid hLK
      clear hLK
      generalize hLD : gpDueD c y l = LD at *
      have HLD2 := Lib.hid hLD
      clear hLD
      obtain ⟨ad, cd, rfl⟩ := hOd.formG
      obtain ⟨_, _, _, _, _, _, _, _⟩ := hX8.frees
      have ho9 := ((Only.refl gg wr).setCell 7 (.int .i64 (gv + ((l.length : Int) - (LK.length : Int))))).setCell 6 (.slice (some ⟨g, off, none⟩) LK.length cap)
      have hX9 := at8_set6 (at8_set7 hX8 (.int .i64 (gv + ((l.length : Int) - (LK.length : Int))))) (.slice (some ⟨g, off, none⟩) LK.length cap)
      have hOc := hOr.cutTo LK.length hlk
      rw [hXt] at hOc
      have hO9 := hOc.keep (W' := (wr.setCell ⟨gg, 7, none⟩ (.int .i64 (gv + ((l.length : Int) - (LK.length : Int))))).setCell ⟨gg, 6, none⟩ (.slice (some ⟨g, off, none⟩) LK.length cap)) (by rw [ho9.size]; exact Nat.le_refl _) (fun q cs hq _ => ho9.block q (fun e => by cases hq; exact hgg e.symm))
      have hK9 := hK.trans (keptG_only hX8 ho9)
      have hD9 := hOd.keptG (keptG_only hX8 ho9) (by decide) (by decide)
      have hb9 := hb.trans (ho9.below HI.out.bs)
      have HF := Lib.hid (And.intro hD9 (And.intro (hin _ _ _ hX9 _ hO9) (And.intro hb9 hK9)))
      clear hin ho9 hX9 hOc hO9 hK9 hD9 hb9 hOr hXt hXd hOd hX8 hb hK
      go_upto_region 13 with fail
      go_region_law (fail)
      all_goals
        go_wp2_with fail
        go_ret
        refine ⟨.slice ad LD.length cd, .slice (some ⟨g, off, none⟩) LK.length cap, rfl, ?_, ?_, HF.out.2.2.1.drew, HF.out.2.2.2.drew⟩
        · rw [HLD2.out, HGS.out]
          exact HF.out.1.drew
        · rw [HLK2.out]
          exact HF.out.2.1.drew

end Go.Proofs.Ytdbmhgfdcdcgfaa
