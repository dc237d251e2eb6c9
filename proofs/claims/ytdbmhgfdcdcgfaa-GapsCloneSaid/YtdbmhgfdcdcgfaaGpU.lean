/- gaps: the document's Due. -/
import Derived.Test.YtdbmhgfdcdcgfaaGpT
namespace Go.Proofs.Ytdbmhgfdcdcgfaa
open Go.RowKit
set_option linter.unusedVariables false
set_option linter.unusedSimpArgs false
theorem OwnE.apart8g {W : World} {b g n size : Nat} {e T : TypeId} {v c0 c1 c2 c3 c4 c5 c6 c7 : Value} {xs : List Value} (h : OwnE W b e size v n xs) (h8 : At8 T W g c0 c1 c2 c3 c4 c5 c6 c7) (hT : e ≠ T) : v.ownBlock ≠ some g := fun e => by
  obtain ⟨cs, hcs⟩ := h.2 g e
  unfold At8 at h8
  rw [h8] at hcs
  simp only [Option.some.injEq, Obj.cells.injEq] at hcs
  exact hT hcs.2.1.symm
theorem At8.grownR {W W' : World} {b g n size : Nat} {e T : TypeId} {o : Obj} {v c0 c1 c2 c3 c4 c5 c6 c7 : Value} {xs : List Value} (h8 : At8 T W g c0 c1 c2 c3 c4 c5 c6 c7) (h : OwnE W b e size v n xs) (hT : e ≠ T) (hg : (W.alloc o).grownBy W' v.ownBlock) : At8 T W' g c0 c1 c2 c3 c4 c5 c6 c7 :=
  (h8.later ((Below.refl _ _).alloc (Nat.le_refl _) o)).grown hg (h.apart8g h8 hT)
theorem At3.grownR {W W' : World} {b g n size : Nat} {e T : TypeId} {o : Obj} {v c0 c1 c2 : Value} {xs : List Value} (h3 : At3 T W g c0 c1 c2) (h : OwnE W b e size v n xs) (hT : e ≠ T) (hg : (W.alloc o).grownBy W' v.ownBlock) : At3 T W' g c0 c1 c2 := by
  have h4 := h3.later ((Below.refl _ _).alloc (Nat.le_refl _) o)
  unfold At3 at h3 h4 ⊢
  rw [hg.block g (lt_of_block h4) (fun e1 => ?_)]
  · exact h4
  · obtain ⟨cs, hcs⟩ := h.2 g e1.symm
    rw [h3] at hcs
    simp only [Option.some.injEq, Obj.cells.injEq] at hcs
    exact hT hcs.2.1.symm
theorem At3.grownBy {W W' : World} {g : Nat} {T : TypeId} {c0 c1 c2 : Value} {row : Option Nat} (h3 : At3 T W g c0 c1 c2) (hg : W.grownBy W' row) (hr : row ≠ some g) : At3 T W' g c0 c1 c2 := by
  unfold At3 at h3 ⊢
  rw [hg.block g (lt_of_block h3) (fun e => hr e.symm)]
  exact h3
theorem OwnE.grownR {W W' : World} {b b2 n n2 size size2 : Nat} {e e2 : TypeId} {o : Obj} {v v2 : Value} {xs ys : List Value} (h : OwnE W b e size v n xs) (h2 : OwnE W b2 e2 size2 v2 n2 ys) (hT : e ≠ e2) (hg : (W.alloc o).grownBy W' v2.ownBlock) : OwnE W' b e size v n xs :=
  (h.alloc o).keep hg.size fun k cs hk hc => hg.block k (lt_of_block hc) (fun e1 => by
    obtain ⟨cs2, h3⟩ := h2.2 k e1.symm
    obtain ⟨cs3, h4⟩ := h.2 k hk
    rw [h3] at h4
    simp only [Option.some.injEq, Obj.cells.injEq] at h4
    exact hT h4.2.1.symm)
set_option maxRecDepth 100000 in
set_option maxHeartbeats 3200000 in
theorem refGpDue_any {w : World} {vl : Value} {l : List GW} {n : Nat} (c : GC) (cm : Bool) (gr gv : Int) (now : Int) (hL : OwnE w 0 65 3 vl n (grV l)) (hn : n ≤ 65535) (hc : GcOk c) (hks : ∀ x ∈ l, x.k ≤ 100 ∧ 0 ≤ x.at_ ∧ x.at_ ≤ 1099512676352) (hgv : 0 ≤ gv ∧ gv ≤ 1152921504606846976) :
    Calls Try.prog 23 #[grG c vl cm gr gv, .int .i64 now] w fun e w' => ∃ v' dv, e = .returned (.tuple #[grG c v' cm gr (gv + ((n : Int) - (gpDueK c (gpK now) l).length)), dv]) ∧ OwnE w' 0 65 3 v' (gpDueK c (gpK now) l).length (grV (gpDueK c (gpK now) l)) ∧ OwnE w' 0 3 1 dv (gpDueD c (gpK now) l).length ((gpDueD c (gpK now) l).map (Value.int .i64)) ∧ Below w.heap.size w w' := by
  unfold grG
  have hT := hc.2.1
  have hA := hc.2.2.2
  obtain ⟨j0, hj, hy0, hy1, hy2⟩ := info_parts info64g
  have HRD := Lib.hid (fun W (h : Below w.heap.size w W) => (hL.later h).rdw)
  obtain ⟨a, cap, rfl, hnc, hcm, hln, hrd⟩ := hL.rdw
  obtain ⟨i0, hi, hz0, hz1, hz2⟩ := info_parts info_want
  unfold maxLen at hcm
  have hX0 := (at8_new 31 w w.heap.size (.int .i64 c.m) (.int .i64 c.t) (.int .i64 c.f) (.int .i64 c.a) (.slice a n cap) (.bool cm) (.int .i64 gr) (.int .i64 gv) rfl).later (W' := ((w.alloc (.cells #[.int .i64 c.m, .int .i64 c.t, .int .i64 c.f, .int .i64 c.a, .slice a n cap, .bool cm, .int .i64 gr, .int .i64 gv] 31)).alloc (.cells #[.int .i64 0, .int .i64 0, .int .i64 0, .int .i64 0, .slice none 0 0, .bool false, .int .i64 0, .int .i64 0] 31))) ((Below.refl _ _).alloc (Nat.le_refl _) _)
  have hX1 := at8_new 31 (w.alloc (.cells #[.int .i64 c.m, .int .i64 c.t, .int .i64 c.f, .int .i64 c.a, .slice a n cap, .bool cm, .int .i64 gr, .int .i64 gv] 31)) (w.heap.size + 1) (.int .i64 0) (.int .i64 0) (.int .i64 0) (.int .i64 0) (.slice none 0 0) (.bool false) (.int .i64 0) (.int .i64 0) (by simp)
  have hb : Below w.heap.size w ((w.alloc (.cells #[.int .i64 c.m, .int .i64 c.t, .int .i64 c.f, .int .i64 c.a, .slice a n cap, .bool cm, .int .i64 gr, .int .i64 gv] 31)).alloc (.cells #[.int .i64 0, .int .i64 0, .int .i64 0, .int .i64 0, .slice none 0 0, .bool false, .int .i64 0, .int .i64 0] 31)) := ((Below.refl _ _).alloc (Nat.le_refl _) _).alloc (by simp) _
  go_enter Try.func23, Try.ntmps23
  go_upto_region 1 with fail
  generalize ((w.alloc (.cells #[.int .i64 c.m, .int .i64 c.t, .int .i64 c.f, .int .i64 c.a, .slice a n cap, .bool cm, .int .i64 gr, .int .i64 gv] 31)).alloc (.cells #[.int .i64 0, .int .i64 0, .int .i64 0, .int .i64 0, .slice none 0 0, .bool false, .int .i64 0, .int .i64 0] 31)) = w2 at *
  have hL2 := hL.later hb
  have hrd2 := hrd.later hb
  generalize hg1 : w.heap.size + 1 = g1 at *
  generalize hg0 : w.heap.size = g0 at *
  have HG := Lib.hid hg0
  have hle1 : g0 ≤ g1 := by omega
  have hne01 : g0 ≠ g1 := by omega
  have hne10 : g1 ≠ g0 := by omega
  have hsz2 : g0 ≤ w2.heap.size := Nat.le_of_lt hX0.lt
  clear hg0 hg1 hL hrd hL2 hrd2
  have HR := Lib.hid (fun W (h : Below g0 w W) => (by
    obtain ⟨a', cap', e, _, _, _, h'⟩ := HRD.out W h
    simp only [Value.slice.injEq, true_and] at e
    obtain ⟨rfl, rfl⟩ := e
    exact h' : RdW W a l))
  have hN2 := Lib.hid (refGpNear_q now 0 1099511627776 w2 (by decide))
  rw [show gAm 0 now 1099511627776 = gpK now from rfl] at hN2
  have hkb := gpK_bd now
  generalize hkk : gpK now = y at *
  have HKK := Lib.hid hkk
  clear hkk HRD
  obtain ⟨_, _, _, _, _, _, _, _⟩ := hX0.cells
  go_wp2_with fail
  refine hN2.out.mono ?_
  rintro e wn ⟨rfl, hq⟩
  have hq2 := hq.symm
  subst hq2
  clear hN2 hq
  have hal1 : Below w2.heap.size w2 (w2.alloc (.cells #[] 3)) := (Below.refl _ _).alloc (Nat.le_refl _) _
  have hal2 : Below (w2.alloc (.cells #[] 3)).heap.size (w2.alloc (.cells #[] 3)) ((w2.alloc (.cells #[] 3)).alloc (.cells #[] 65)) := (Below.refl _ _).alloc (Nat.le_refl _) _
  have hal := hal1.trans (hal2.mono hal1.size)
  have hE1 : OwnE ((w2.alloc (.cells #[] 3)).alloc (.cells #[] 65)) g0 3 1 (.slice (some ⟨w2.heap.size, 0, none⟩) 0 0) 0 [] := ((ownE_of (World.ownsRow_lit w2 #[] 0 (Nat.le_refl _) (Nat.zero_le _) rfl)).later hal2).base hsz2
  have hE2 : OwnE ((w2.alloc (.cells #[] 3)).alloc (.cells #[] 65)) g0 65 3 (.slice (some ⟨(w2.alloc (.cells #[] 3)).heap.size, 0, none⟩) 0 0) 0 [] := (ownE_of (World.ownsRow_lit (w2.alloc (.cells #[] 3)) #[] 0 (Nat.le_refl _) (Nat.zero_le _) rfl)).base (Nat.le_trans hsz2 hal1.size)
  rw [World.size_alloc] at hE2
  have hX03 := hX0.later hal
  have hX13 := hX1.later hal
  have hb3 := hb.trans (hal.mono hsz2)
  obtain ⟨_, _, _, _, _, _, _, _⟩ := hX03.cells
  go_upto_region 4 with fail
  generalize ((w2.alloc (.cells #[] 3)).alloc (.cells #[] 65)) = w3 at *
  clear hal hal1 hal2 hX0 hX1 hb
  have HFt := Lib.hid (fun k r (h : l[k]? = some r) => gpDueK_take c y l k r h)
  have HDt := Lib.hid (fun k r (h : l[k]? = some r) => gpDueD_take c y l k r h)
  have HKl := Lib.hid (fun k => (gpDueK_len c y (l.take k) : (gpDueK c y (l.take k)).length ≤ (l.take k).length))
  have HDl := Lib.hid (fun k => (gpDueD_len c y (l.take k) : (gpDueD c y (l.take k)).length ≤ (l.take k).length))
  have HLN := Lib.hid hln
  have HVs := Lib.hid grV_snoc
  have HKS := Lib.hid hks
  clear hln hks
  go_wp2_with fail
  go_loopw [6, 7, 17] (fun v6 v7 i wr => ∃ (k : Nat) (gvk : Int), k ≤ n ∧ i = .int .i64 k ∧ gvk = gv + ((k : Int) - (gpDueK c y (l.take k)).length) ∧ OwnE wr g0 3 1 v6 (gpDueD c y (l.take k)).length ((gpDueD c y (l.take k)).map (Value.int .i64)) ∧ OwnE wr g0 65 3 v7 (gpDueK c y (l.take k)).length (grV (gpDueK c y (l.take k))) ∧ At8 31 wr g0 (.int .i64 c.m) (.int .i64 c.t) (.int .i64 c.f) (.int .i64 c.a) (.slice a n cap) (.bool cm) (.int .i64 gr) (.int .i64 gvk) ∧ At8 31 wr g1 (.int .i64 0) (.int .i64 0) (.int .i64 0) (.int .i64 0) (.slice none 0 0) (.bool false) (.int .i64 0) (.int .i64 0) ∧ Below g0 w wr) (fun _ _ i _ => n - (intOf i).toNat)
  case atStart => exact ⟨0, gv, Nat.zero_le _, rfl, by simp [gpDueK], hE1, hE2, hX03, hX13, hb3⟩
  case round =>
    obtain ⟨k, gvk, hk, rfl, hgk, hOd, hOk, hX0, hX1, hb⟩ := hrel
    clear hE1 hE2 hX03 hX13 hb3
    have hwg : g0 ≤ wr.heap.size := Nat.le_of_lt hX0.lt
    by_cases hlt : k < n
    · obtain ⟨r, hr⟩ : ∃ r, l[k]? = some r := ⟨_, List.getElem?_eq_getElem (by have := HLN.out; omega)⟩
      obtain ⟨g, off, rfl, c0, c1, c2⟩ := HR.out wr hb k r hr
      have HK1 := Lib.hid (HFt.out k r hr)
      have HD1 := Lib.hid (HDt.out k r hr)
      have hkl : (gpDueK c y (l.take k)).length ≤ k := Nat.le_trans (HKl.out k) (by rw [List.length_take]; omega)
      have hdl : (gpDueD c y (l.take k)).length ≤ k := Nat.le_trans (HDl.out k) (by rw [List.length_take]; omega)
      obtain ⟨hrk, hra, hrb⟩ := HKS.out r (List.mem_of_getElem? hr)
      have hlt4 : ∀ q, u7.ownBlock = some q → q < wr.heap.size := fun q hq => (hOk.1.lt q hq).2
      have hgvb : 0 ≤ gvk ∧ gvk ≤ 1152921504607000000 := by omega
      obtain ⟨rn, ra, rk⟩ := r
      simp only at c0 c1 c2 HK1 HD1 hrk hra hrb
      have hX := at3_new 65 wr wr.heap.size (.int .i64 rn) (.int .i64 ra) (.int .i64 rk) rfl
      have hal : Below wr.heap.size wr (wr.alloc (.cells #[.int .i64 rn, .int .i64 ra, .int .i64 rk] 65)) := (Below.refl _ _).alloc (Nat.le_refl _) _
      have hOd3 := hOd.later hal
      have hOk3 := hOk.later hal
      have hX03 := hX0.later hal
      have hX13 := hX1.later hal
      have hb3 := hb.trans (hal.mono hwg)
      have hwg3 : g0 ≤ (wr.alloc (.cells #[.int .i64 rn, .int .i64 ra, .int .i64 rk] 65)).heap.size := Nat.le_trans hwg hal.size
      clear hr
      have HGK := Lib.hid hgk
      clear hgk
      go_upto_region 7 with fail
      generalize wr.alloc (.cells #[.int .i64 rn, .int .i64 ra, .int .i64 rk] 65) = w4 at hX hOd3 hOk3 hX03 hX13 hb3 hwg3 ⊢
      generalize wr.heap.size = g4 at hX hlt4 ⊢
      clear hOd hOk hX0 hX1 hb hal c0 c1 c2 hwg
      generalize gpDueK c y (l.take k) = LK at *
      generalize gpDueD c y (l.take k) = LD at *
      obtain ⟨_, _, _⟩ := hX.cells
      obtain ⟨_, _, _, _, _, _, _, _⟩ := hX03.cells
      by_cases hA1 : y < ra
      · have HK2 : Hid (gpDueK c y (l.take (k + 1)) = LK ++ [(⟨rn, ra, rk⟩ : GW)]) := Lib.hid (by rw [HK1.out]; unfold duK1; rw [if_pos hA1])
        have HD2 : Hid (gpDueD c y (l.take (k + 1)) = LD) := Lib.hid (by rw [HD1.out]; unfold duD1; rw [if_pos hA1, List.append_nil])
        have HKV : Hid (grV (LK ++ [(⟨rn, ra, rk⟩ : GW)]) = grV LK ++ [.int .i64 rn, .int .i64 ra, .int .i64 rk]) := Lib.hid (HVs.out LK (⟨rn, ra, rk⟩ : GW))
        generalize hnk : LK.length = nk at *
        have HNK := Lib.hid hnk
        clear HK1 HD1 hnk
        generalize grV LK = xs at *
        go_wp2_with (at_builtin; refine append_recG (W := w) rfl (.tmp 25) (.tmp 27) 29 rfl 65 i0 (.agg #[.int .i64 0, .int .i64 0, .int .i64 0]) 3 24 Try.underlying29 hi hz0 hz1 hz2 rfl (by decide) g0 _ nk xs rfl hOk3 #[.int .i64 rn, .int .i64 ra, .int .i64 rk] rfl rfl ?d0 ?d1 ?d2 hwg3 g0 (Nat.le_refl _) hb3 ?_)
        case d0 => exact ⟨rfl, rfl, rfl⟩
        case d1 => unfold maxLen; omega
        case d2 => omega
        intro v5 w5 hO5 hb5 hg5 _
        have hOd5 := hOd3.grownR hOk3 (by decide) hg5
        have hX05 := hX03.grownR hOk3 (by decide) hg5
        have hX15 := hX13.grownR hOk3 (by decide) hg5
        have HO6 : Hid (OwnE w5 g0 65 3 v5 (LK ++ [(⟨rn, ra, rk⟩ : GW)]).length (grV (LK ++ [(⟨rn, ra, rk⟩ : GW)]))) := Lib.hid (by
          rw [HKV.out, List.length_append, HNK.out]
          exact hO5)
        clear hO5 hOk3 hOd3 hX03 hX13 hb3 hX hg5
        go_wp2_with fail
        go_roundw
        case rel => exact ⟨k + 1, gvk, by omega, by go_num, by rw [HK2.out, List.length_append, HNK.out, HGK.out]; push_cast; simp; omega, by rw [HD2.out]; exact hOd5, by rw [HK2.out]; exact HO6.out, hX05, hX15, hb5⟩
        case measure => simp [intOf]; omega
      · by_cases hB1 : (rk : Int) < c.t
        · have HK2 : Hid (gpDueK c y (l.take (k + 1)) = LK ++ [(⟨rn, y + wtR c.a rk, rk + 1⟩ : GW)]) := Lib.hid (by rw [HK1.out]; unfold duK1; rw [if_neg hA1, if_pos hB1])
          have HD2 : Hid (gpDueD c y (l.take (k + 1)) = LD ++ [rn]) := Lib.hid (by rw [HD1.out]; unfold duD1; rw [if_neg hA1, if_pos hB1])
          have HKV : Hid (grV (LK ++ [(⟨rn, y + wtR c.a rk, rk + 1⟩ : GW)]) = grV LK ++ [.int .i64 rn, .int .i64 (y + wtR c.a rk), .int .i64 ((rk : Int) + 1)]) := Lib.hid (HVs.out LK (⟨rn, y + wtR c.a rk, rk + 1⟩ : GW))
          have HDV : Hid ((LD ++ [rn]).map (Value.int .i64) = LD.map (Value.int .i64) ++ [.int .i64 rn]) := Lib.hid (by rw [List.map_append]; rfl)
          have HWt := Lib.hid (fun W => refGpWait_q c.m c.t c.f c.a rk W hA (by omega))
          have hwb := wtR_bd c.a hA rk
          generalize wtR c.a rk = wt at *
          obtain ⟨nk, hnk⟩ : ∃ nk, LK.length = nk := ⟨_, rfl⟩
          obtain ⟨nd, hnd⟩ : ∃ nd, LD.length = nd := ⟨_, rfl⟩
          have HNK := Lib.hid hnk
          have HND := Lib.hid hnd
          rw [hnk] at hOk3 hkl
          rw [hnd] at hOd3 hdl
          have HGK2 : Hid (gvk = gv + (((k + 1 : Nat) : Int) - (LK ++ [(⟨rn, y + wt, rk + 1⟩ : GW)]).length)) := Lib.hid (by rw [HGK.out, List.length_append, hnk]; push_cast; simp; omega)
          clear HK1 HD1 hnk hnd HGK
          generalize grV LK = xs at *
          generalize LD.map (Value.int .i64) = ys at *
          have hdk : decide (c.t ≤ (rk : Int)) = false := decide_eq_false (by omega)
          obtain ⟨ak, ck, rfl⟩ := hOk3.formG
          go_wp2_with (at_builtin; refine append_recG (W := w) rfl (.tmp 39) (.tmp 42) 45 rfl 3 j0 (.int .i64 0) 1 8 Try.underlying45 hj hy0 hy1 hy2 rfl (by decide) g0 _ nd ys rfl hOd3 #[.int .i64 rn] rfl rfl ?d0 ?d1 ?d2 hwg3 g0 (Nat.le_refl _) hb3 ?_)
          case d0 => rfl
          case d1 => unfold maxLen; omega
          case d2 => omega
          intro v5 w5 hO5 hb5 hg5 _
          have hOk5 := hOk3.grownR hOd3 (by decide) hg5
          have hX05 := hX03.grownR hOd3 (by decide) hg5
          have hX15 := hX13.grownR hOd3 (by decide) hg5
          have hX5 := hX.grownR hOd3 (by decide) hg5
          have hwg5 : g0 ≤ w5.heap.size := Nat.le_of_lt hX05.lt
          obtain ⟨ad, cd, rfl⟩ := hO5.formG
          rw [← HDV.out] at hO5
          have HSS := Lib.hid (fun (W : World) (h : Below w5.heap.size w5 W) => (⟨(hX5.later h).cells, (hX05.later h).cells⟩ : (W.cell? ⟨g4, 0, none⟩ = some (.int .i64 rn) ∧ W.cell? ⟨g4, 1, none⟩ = some (.int .i64 ra) ∧ W.cell? ⟨g4, 2, none⟩ = some (.int .i64 rk)) ∧ (W.cell? ⟨g0, 0, none⟩ = some (.int .i64 c.m) ∧ W.cell? ⟨g0, 1, none⟩ = some (.int .i64 c.t) ∧ W.cell? ⟨g0, 2, none⟩ = some (.int .i64 c.f) ∧ W.cell? ⟨g0, 3, none⟩ = some (.int .i64 c.a) ∧ W.cell? ⟨g0, 4, none⟩ = some (.slice (some ⟨g, off, none⟩) n cap) ∧ W.cell? ⟨g0, 5, none⟩ = some (.bool cm) ∧ W.cell? ⟨g0, 6, none⟩ = some (.int .i64 gr) ∧ W.cell? ⟨g0, 7, none⟩ = some (.int .i64 gvk))))
          have hne4 : Value.ownBlock (.slice ak nk ck) ≠ some g4 := fun e => by have := hlt4 g4 e; omega
          have HSG := Lib.hid (fun (W7 W8 : World) (h : Below w5.heap.size w5 W7) (hg : (W7.alloc (.cells #[.int .i64 rn, .int .i64 (y + wt), .int .i64 ((rk : Int) + 1)] 65)).grownBy W8 (Value.ownBlock (.slice ak nk ck))) => (⟨((hX5.later h).alloc _).grownBy hg hne4, (hX05.later h).grownR (hOk5.later h) (by decide) hg, (hX15.later h).grownR (hOk5.later h) (by decide) hg, (hO5.later h).grownR (hOk5.later h) (by decide) hg⟩ : At3 65 W8 g4 (.int .i64 rn) (.int .i64 ra) (.int .i64 rk) ∧ At8 31 W8 g0 (.int .i64 c.m) (.int .i64 c.t) (.int .i64 c.f) (.int .i64 c.a) (.slice (some ⟨g, off, none⟩) n cap) (.bool cm) (.int .i64 gr) (.int .i64 gvk) ∧ At8 31 W8 g1 (.int .i64 0) (.int .i64 0) (.int .i64 0) (.int .i64 0) (.slice none 0 0) (.bool false) (.int .i64 0) (.int .i64 0) ∧ OwnE W8 g0 3 1 (.slice ad (nd + 1) cd) (nd + 1) ((LD ++ [rn]).map (Value.int .i64))))
          have HONE : Hid (∀ u ∈ (#[Value.int .i64 rn, .int .i64 (y + wt), .int .i64 ((rk : Int) + 1)] : Array Value).toList, u.oneCell' = true) := Lib.hid (by simp [Value.oneCell'])
          have HM1 : Hid (nk + 1 ≤ maxLen) := Lib.hid (by unfold maxLen; omega)
          have HM2 : Hid ((nk + 1) * 24 ≤ 140737488355328) := Lib.hid (by omega)
          have hw1 : IntKind.i64.wrap ((rk : Int) + 1) = (rk : Int) + 1 := IntWalk.i64_in _ ⟨by omega, by omega⟩
          have hw2 : IntKind.i64.wrap (y + wt) = y + wt := IntWalk.i64_in _ ⟨by omega, by omega⟩
          have hC1 := (HSS.out w5.drew ((Below.refl _ _).drew)).1
          have hC2 := (HSS.out w5.drew ((Below.refl _ _).drew)).2
          clear hOd3 hOk3 hX03 hX13 hb3 hX hg5 hA hT
          obtain ⟨_, _, _⟩ := hC1
          obtain ⟨_, _, _, _, _, _, _, _⟩ := hC2
          go_upto_region 12 with fail
          go_region_held3 (fun W => (W.cell? ⟨g4, 0, none⟩ = some (.int .i64 rn) ∧ W.cell? ⟨g4, 1, none⟩ = some (.int .i64 ra) ∧ W.cell? ⟨g4, 2, none⟩ = some (.int .i64 rk)) ∧ (W.cell? ⟨g0, 0, none⟩ = some (.int .i64 c.m) ∧ W.cell? ⟨g0, 1, none⟩ = some (.int .i64 c.t) ∧ W.cell? ⟨g0, 2, none⟩ = some (.int .i64 c.f) ∧ W.cell? ⟨g0, 3, none⟩ = some (.int .i64 c.a) ∧ W.cell? ⟨g0, 4, none⟩ = some (.slice (some ⟨g, off, none⟩) n cap) ∧ W.cell? ⟨g0, 5, none⟩ = some (.bool cm) ∧ W.cell? ⟨g0, 6, none⟩ = some (.int .i64 gr) ∧ W.cell? ⟨g0, 7, none⟩ = some (.int .i64 gvk))) (first | (go_keep; done) | exact HSS.out _ ((Below.refl _ _).drew) | exact HSS.out _ hk7 | exact HSS.out _ (hk7.alloc hk7.size _) | exact ⟨HS8.out.1.cells, HS8.out.2.1.cells⟩) (first | (go_at_call 35; refine (HWt.out _).mono ?_; rintro e w7 ⟨rfl, hk7'⟩; have hk7 : Below w5.heap.size w5 w7 := Below.trans (Below.drew (Below.refl _ _)) hk7'; clear hk7'; have hO7 := hOk5.later hk7; have hb7 := hb5.trans (hk7.mono hwg5); have hwg7 : g0 ≤ w7.heap.size := Nat.le_trans hwg5 hk7.size) | (refine step_recG (w := w7) (W := w) rfl (.tmp 44) (.tmp 59) 29 rfl 65 i0 (.agg #[.int .i64 0, .int .i64 0, .int .i64 0]) 3 24 Try.underlying29 hi hz0 hz1 hz2 rfl (by decide) g0 (.slice ak nk ck) nk xs (by simp [Act.eval, Act.put]) hO7 #[.int .i64 rn, .int .i64 (y + wt), .int .i64 ((rk : Int) + 1)] rfl (by simp [Act.eval, Act.put]) HONE.out HM1.out HM2.out hwg7 g0 (Nat.le_refl _) hb7 ?_; intro aq cq w8 H8; have HS8 := Lib.hid (HSG.out _ _ hk7 H8.out.2.2)))
          all_goals
            obtain ⟨_, hX08, hX18, hO8⟩ := HS8.out
            have hOk8 := H8.out.1
            have hb8 := H8.out.2.1
            clear HS8 H8 HSG HSS hO7 hb7 hk7 hO5 hOk5 hX05 hX15 hX5 hb5
            go_wp2_with fail
            go_roundw
            case rel => exact ⟨k + 1, gvk, by omega, by go_num, by rw [HK2.out]; exact HGK2.out, by rw [HD2.out, List.length_append, HND.out]; exact hO8, by rw [HK2.out, List.length_append, HNK.out, HKV.out]; exact hOk8, hX08, hX18, hb8⟩
            case measure => simp [intOf]; omega
        · have HK2 : Hid (gpDueK c y (l.take (k + 1)) = LK) := Lib.hid (by rw [HK1.out]; unfold duK1; rw [if_neg hA1, if_neg hB1, List.append_nil])
          have HD2 : Hid (gpDueD c y (l.take (k + 1)) = LD) := Lib.hid (by rw [HD1.out]; unfold duD1; rw [if_neg hA1, if_neg hB1, List.append_nil])
          have hdk : decide (c.t ≤ (rk : Int)) = true := decide_eq_true (by omega)
          have HGK2 : Hid (gvk + 1 = gv + (((k + 1 : Nat) : Int) - LK.length)) := Lib.hid (by rw [HGK.out]; push_cast; omega)
          have ho5 := (Only.refl g0 w4).setCell 7 (.int .i64 (gvk + 1))
          have hX05 := at8_set7 hX03 (.int .i64 (gvk + 1))
          have hX15 := hX13.only hne10 ho5
          have hOd5 := hOd3.only8 hX03 ho5 (by decide)
          have hOk5 := hOk3.only8 hX03 ho5 (by decide)
          have hb5 := hb3.trans (ho5.below (Nat.le_refl _))
          obtain ⟨_, _, _, _, _, _, _, _⟩ := hX03.frees
          clear HK1 HD1 HGK hA hT
          go_upto_region 13 with fail
          generalize w4.setCell ⟨g0, 7, none⟩ (.int .i64 (gvk + 1)) = w5 at hX05 hX15 hOd5 hOk5 hb5 ⊢
          clear ho5 hX03 hX13 hOd3 hOk3 hb3 hX
          go_wp2_with fail
          go_roundw
          case rel => exact ⟨k + 1, gvk + 1, by omega, by go_num, by rw [HK2.out]; exact HGK2.out, by rw [HD2.out]; exact hOd5, by rw [HK2.out]; exact hOk5, hX05, hX15, hb5⟩
          case measure => simp [intOf]; omega
    · obtain rfl : k = n := by omega
      have hlk : l.take k = l := List.take_of_length_le (by have := HLN.out; omega)
      rw [hlk] at hOd hOk hgk
      obtain ⟨a5, c5, rfl⟩ := hOk.formG
      obtain ⟨ad, cd, rfl⟩ := hOd.formG
      generalize hfl : gpDueK c y l = fl at *
      generalize hfd : gpDueD c y l = fd at *
      have HFL : Hid (gpDueK c (gpK now) l = fl) := Lib.hid (by rw [HKK.out]; exact hfl)
      have HFD : Hid (gpDueD c (gpK now) l = fd) := Lib.hid (by rw [HKK.out]; exact hfd)
      have HGK := Lib.hid hgk
      clear hfl hfd hlk HFt HDt HKl HDl HR hgk
      obtain ⟨_, _, _, _, _, _, _, _⟩ := hX0.frees
      obtain ⟨_, _, _, _, _, _, _, _⟩ := hX0.cells
      go_upto_region 15 with fail
      have ho6 := (Only.refl g0 wr).setCell 4 (.slice a5 fl.length c5)
      have h6a := at8_set4 hX0 (.slice a5 fl.length c5)
      have h6b := hX1.only hne10 ho6
      have hOk6 := (hOk.only8 hX0 ho6 (by decide)).base (Nat.zero_le _)
      have hOd6 := (hOd.only8 hX0 ho6 (by decide)).base (Nat.zero_le _)
      have hb6 := hb.trans (ho6.below (Nat.le_refl _))
      generalize wr.setCell ⟨g0, 4, none⟩ (.slice a5 fl.length c5) = w6 at h6a h6b hOk6 hOd6 hb6 ⊢
      clear ho6 hX0 hX1 hOk hOd hb
      obtain ⟨_, _, _, _, _, _, _, _⟩ := h6a.cells
      obtain ⟨_, _, _, _, _, _, _, _⟩ := h6b.cells
      obtain ⟨_, _, _, _, _, _, _, _⟩ := h6b.frees
      have ho7 := put8_only w6 g1 (.int .i64 c.m) (.int .i64 c.t) (.int .i64 c.f) (.int .i64 c.a) (.slice a5 fl.length c5) (.bool cm) (.int .i64 gr) (.int .i64 gvk)
      have HO7 := Lib.hid (hOk6.only8 h6b ho7 (by decide))
      have HD7 := Lib.hid (hOd6.only8 h6b ho7 (by decide))
      have hZ := at8_put8 h6b (.int .i64 c.m) (.int .i64 c.t) (.int .i64 c.f) (.int .i64 c.a) (.slice a5 fl.length c5) (.bool cm) (.int .i64 gr) (.int .i64 gvk)
      have HBZ := Lib.hid (hb6.trans (ho7.below hle1))
      obtain ⟨d0, d1, d2, d3, d4, d5, d6, d7⟩ := hZ.cells
      clear hZ ho7
      go_wp2_with fail
      generalize ((((((((w6.setCell ⟨g1, 0, none⟩ (.int .i64 c.m)).setCell ⟨g1, 1, none⟩ (.int .i64 c.t)).setCell ⟨g1, 2, none⟩ (.int .i64 c.f)).setCell ⟨g1, 3, none⟩ (.int .i64 c.a)).setCell ⟨g1, 4, none⟩ (.slice a5 fl.length c5)).setCell ⟨g1, 5, none⟩ (.bool cm)).setCell ⟨g1, 6, none⟩ (.int .i64 gr)).setCell ⟨g1, 7, none⟩ (.int .i64 gvk)) = w7 at HO7 HD7 HBZ d0 d1 d2 d3 d4 d5 d6 d7 ⊢
      refine bodyPost_ret (v := .tuple #[.agg #[.int .i64 c.m, .int .i64 c.t, .int .i64 c.f, .int .i64 c.a, .slice a5 fl.length c5, .bool cm, .int .i64 gr, .int .i64 gvk], .slice ad fd.length cd]) (by simp [results, Try.results23, go_sem, d0, d1, d2, d3, d4, d5, d6, d7]) rfl ⟨.slice a5 fl.length c5, .slice ad fd.length cd, by rw [HFL.out, HGK.out], by rw [HFL.out]; exact HO7.out, by rw [HFD.out]; exact HD7.out, by rw [HG.out]; exact HBZ.out⟩
end Go.Proofs.Ytdbmhgfdcdcgfaa
