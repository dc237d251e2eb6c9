/- gaps: the document's Forget. -/
import Derived.Test.YtdbmhgfdcdcgfaaGpQ
namespace Go.Proofs.Ytdbmhgfdcdcgfaa
open Go.RowKit
set_option linter.unusedVariables false
set_option linter.unusedSimpArgs false
theorem info_want : (Try.prog.info? 65).map (fun i => (i.zero, i.size, i.bytes)) = some (some (.agg #[.int .i64 0, .int .i64 0, .int .i64 0]), 3, 24) := by kernel_rfl
/-- The document's packets in memory. -/
def RdW (W : World) (a : Option Addr) (l : List GW) : Prop := ∀ i r, l[i]? = some r → ∃ g off, a = some ⟨g, off, none⟩ ∧ W.cell? ⟨g, off + i * 3, none⟩ = some (.int .i64 r.n) ∧ W.cell? ⟨g, off + i * 3 + 1, none⟩ = some (.int .i64 r.at_) ∧ W.cell? ⟨g, off + i * 3 + 2, none⟩ = some (.int .i64 r.k)
theorem RdW.later {W W' : World} {a : Option Addr} {l : List GW} (h : RdW W a l) (hb : Below W.heap.size W W') : RdW W' a l := fun i r hr => by
  obtain ⟨g, off, e, h0, h1, h2⟩ := h i r hr
  exact ⟨g, off, e, cell_keep h0 hb, cell_keep h1 hb, cell_keep h2 hb⟩
theorem OwnE.rdw {W : World} {b : Nat} {e : TypeId} {v : Value} {n : Nat} {l : List GW} (h : OwnE W b e 3 v n (grV l)) : ∃ a cap, v = .slice a n cap ∧ n ≤ cap ∧ cap ≤ maxLen ∧ l.length = n ∧ RdW W a l := by
  have hn : l.length = n := by have := h.1.1; rw [grV_len] at this; omega
  rcases h.1.2 with ⟨rfl, h0⟩ | ⟨g, off, cap, rfl, _, _, h1, h2, _, hc⟩
  · refine ⟨none, 0, by rw [h0], by omega, Nat.zero_le _, hn, fun i r hr => ?_⟩
    have := (List.getElem?_eq_some_iff.1 hr).1
    omega
  · refine ⟨_, _, rfl, h1, h2, hn, fun i r hr => ⟨g, off, rfl, ?_⟩⟩
    have f := fun j u hj => hc _ u (rowsV_at GW.rs_len l i r hr j u hj)
    refine ⟨?_, ?_, ?_⟩
    · exact f 0 _ rfl
    · rw [Nat.add_assoc]; exact f 1 _ rfl
    · rw [Nat.add_assoc]; exact f 2 _ rfl
/-- A row is kept by stores into a block of eight cells of another type. -/
theorem OwnE.only8 {W W' : World} {b g : Nat} {e T : TypeId} {size : Nat} {v : Value} {n : Nat} {xs : List Value} {c0 c1 c2 c3 c4 c5 c6 c7 : Value} (h : OwnE W b e size v n xs) (x : At8 T W g c0 c1 c2 c3 c4 c5 c6 c7) (ho : Only g W W') (hT : e ≠ T) : OwnE W' b e size v n xs :=
  h.keep (by rw [ho.size]; exact Nat.le_refl _) fun k cs _ hc => ho.block k (fun e' => by
    subst e'
    unfold At8 at x
    rw [x] at hc
    simp only [Option.some.injEq, Obj.cells.injEq] at hc
    exact hT hc.2.1.symm)
/-- Those of which something is true. -/
def grF (p : GW → Bool) (l : List GW) : List GW := l.filter p
theorem grF_take (p : GW → Bool) (l : List GW) (k : Nat) (r : GW) (h : l[k]? = some r) : grF p (l.take (k + 1)) = grF p (l.take k) ++ if p r = true then [r] else [] := by
  unfold grF
  rw [List.take_add_one, h, List.filter_append]
  by_cases hc : p r = true
  · simp [hc]
  · simp [hc]
theorem grF_le (p : GW → Bool) (l : List GW) : (grF p l).length ≤ l.length := List.length_filter_le _ _
set_option maxRecDepth 100000 in
set_option maxHeartbeats 3200000 in
theorem refGpForget_any {w : World} {vl : Value} {l : List GW} {n : Nat} (c : GC) (cm : Bool) (gr gv : Int) (s : Int) (hL : OwnE w 0 65 3 vl n (grV l)) (hn : n ≤ 65535) :
    Calls Try.prog 24 #[grG c vl cm gr gv, .int .i64 s] w fun e w' => ∃ v', e = .returned (.tuple #[grG c v' cm gr gv, .int .i64 ((n : Int) - (grF (fun x => decide (s < x.n)) l).length)]) ∧ OwnE w' 0 65 3 v' (grF (fun x => decide (s < x.n)) l).length (grV (grF (fun x => decide (s < x.n)) l)) ∧ Below w.heap.size w w' := by
  unfold grG
  obtain ⟨a, cap, rfl, hnc, hcm, hln, hrd⟩ := hL.rdw
  obtain ⟨i0, hi, hz0, hz1, hz2⟩ := info_parts info_want
  unfold maxLen at hcm
  have hX0 := (at8_new 31 w w.heap.size (.int .i64 c.m) (.int .i64 c.t) (.int .i64 c.f) (.int .i64 c.a) (.slice a n cap) (.bool cm) (.int .i64 gr) (.int .i64 gv) rfl).later (W' := ((w.alloc (.cells #[.int .i64 c.m, .int .i64 c.t, .int .i64 c.f, .int .i64 c.a, .slice a n cap, .bool cm, .int .i64 gr, .int .i64 gv] 31)).alloc (.cells #[.int .i64 0, .int .i64 0, .int .i64 0, .int .i64 0, .slice none 0 0, .bool false, .int .i64 0, .int .i64 0] 31))) ((Below.refl _ _).alloc (Nat.le_refl _) _)
  have hX1 := at8_new 31 (w.alloc (.cells #[.int .i64 c.m, .int .i64 c.t, .int .i64 c.f, .int .i64 c.a, .slice a n cap, .bool cm, .int .i64 gr, .int .i64 gv] 31)) (w.heap.size + 1) (.int .i64 0) (.int .i64 0) (.int .i64 0) (.int .i64 0) (.slice none 0 0) (.bool false) (.int .i64 0) (.int .i64 0) (by simp)
  have hb : Below w.heap.size w ((w.alloc (.cells #[.int .i64 c.m, .int .i64 c.t, .int .i64 c.f, .int .i64 c.a, .slice a n cap, .bool cm, .int .i64 gr, .int .i64 gv] 31)).alloc (.cells #[.int .i64 0, .int .i64 0, .int .i64 0, .int .i64 0, .slice none 0 0, .bool false, .int .i64 0, .int .i64 0] 31)) := ((Below.refl _ _).alloc (Nat.le_refl _) _).alloc (by simp) _
  go_enter Try.func24, Try.ntmps24
  go_upto_region 1 with fail
  generalize ((w.alloc (.cells #[.int .i64 c.m, .int .i64 c.t, .int .i64 c.f, .int .i64 c.a, .slice a n cap, .bool cm, .int .i64 gr, .int .i64 gv] 31)).alloc (.cells #[.int .i64 0, .int .i64 0, .int .i64 0, .int .i64 0, .slice none 0 0, .bool false, .int .i64 0, .int .i64 0] 31)) = w2 at *
  have hL2 := hL.later hb
  have hrd2 := hrd.later hb
  generalize hg1 : w.heap.size + 1 = g1 at *
  generalize hg0 : w.heap.size = g0 at *
  have HG := Lib.hid hg0
  have hle1 : g0 ≤ g1 := by omega
  have hne01 : g0 ≠ g1 := by omega
  have hne10 : g1 ≠ g0 := by omega
  have hsz2 : g0 ≤ w2.heap.size := Nat.le_of_lt hX0.lt
  clear hg0 hg1 hL hrd
  obtain ⟨_, _, _, _, _, _, _, _⟩ := hX0.cells
  have hal : Below w2.heap.size w2 (w2.alloc (.cells #[] 65)) := (Below.refl _ _).alloc (Nat.le_refl _) _
  have hE : OwnE (w2.alloc (.cells #[] 65)) w2.heap.size 65 3 (.slice (some ⟨w2.heap.size, 0, none⟩) 0 0) 0 [] := ownE_of (World.ownsRow_lit w2 #[] 0 (Nat.le_refl _) (Nat.zero_le _) rfl)
  have HR := Lib.hid (fun W (h : Below w2.heap.size w2 W) => hrd2.later h)
  have HX0 := Lib.hid (fun W (h : Below w2.heap.size w2 W) => hX0.later h)
  have HX1 := Lib.hid (fun W (h : Below w2.heap.size w2 W) => hX1.later h)
  have HFt := Lib.hid (grF_take (fun x => decide (s < x.n)) l)
  have HFl := Lib.hid (grF_le (fun x => decide (s < x.n)))
  have HLN := Lib.hid hln
  have HVs := Lib.hid grV_snoc
  obtain ⟨_, _, _, _, _, _, _, _⟩ := (hX0.later hal).cells
  go_upto_region 2 with fail
  generalize hw3 : w2.alloc (.cells #[] 65) = w3 at *
  clear hX0 hX1 hrd2 hln hw3 hL2
  go_wp2_with fail
  go_loopw [6, 14] (fun vk i wr => ∃ k : Nat, k ≤ n ∧ i = .int .i64 k ∧ OwnE wr w2.heap.size 65 3 vk (grF (fun x => decide (s < x.n)) (l.take k)).length (grV (grF (fun x => decide (s < x.n)) (l.take k))) ∧ Below w2.heap.size w2 wr) (fun _ i _ => n - (intOf i).toNat)
  case atStart => exact ⟨0, Nat.zero_le _, rfl, hE, hal⟩
  case round =>
    obtain ⟨k, hk, rfl, hO, hbw⟩ := hrel
    clear hE hal
    by_cases hlt : k < n
    · obtain ⟨r, hr⟩ : ∃ r, l[k]? = some r := ⟨_, List.getElem?_eq_getElem (by have := HLN.out; omega)⟩
      obtain ⟨g, off, rfl, c0, c1, c2⟩ := HR.out wr hbw k r hr
      have HK1 := Lib.hid (HFt.out k r hr)
      have hkl : (grF (fun x => decide (s < x.n)) (l.take k)).length ≤ k := Nat.le_trans (HFl.out _) (by rw [List.length_take]; omega)
      have hX := at3_new 65 wr wr.heap.size (.int .i64 r.n) (.int .i64 r.at_) (.int .i64 r.k) rfl
      have hb3 := hbw.alloc hbw.size (.cells #[.int .i64 r.n, .int .i64 r.at_, .int .i64 r.k] 65)
      have hO3 := hO.alloc (.cells #[.int .i64 r.n, .int .i64 r.at_, .int .i64 r.k] 65)
      clear hr
      go_upto_region 5 with fail
      generalize wr.alloc (.cells #[.int .i64 r.n, .int .i64 r.at_, .int .i64 r.k] 65) = w4 at hX hb3 hO3 ⊢
      generalize wr.heap.size = g4 at hX ⊢
      clear hbw hO c0 c1 c2
      obtain ⟨_, _, _⟩ := hX.cells
      by_cases he : s < r.n
      · have HK2 : Hid (grF (fun x => decide (s < x.n)) (l.take (k + 1)) = grF (fun x => decide (s < x.n)) (l.take k) ++ [r]) := Lib.hid (by rw [HK1.out, if_pos (by simpa using he)])
        have HKV : Hid (grV (grF (fun x => decide (s < x.n)) (l.take (k + 1))) = grV (grF (fun x => decide (s < x.n)) (l.take k)) ++ r.rs) := Lib.hid (by rw [HK2.out, HVs.out])
        have HKN : Hid ((grF (fun x => decide (s < x.n)) (l.take (k + 1))).length = (grF (fun x => decide (s < x.n)) (l.take k)).length + 1) := Lib.hid (by rw [HK2.out, List.length_append]; rfl)
        clear HK1
        generalize grV (grF (fun x => decide (s < x.n)) (l.take k)) = xs at *
        generalize (grF (fun x => decide (s < x.n)) (l.take k)).length = nk at *
        skip
        go_wp2_with (at_builtin; refine append_recG (W := w2) rfl (.tmp 22) (.tmp 24) 29 rfl 65 i0 (.agg #[.int .i64 0, .int .i64 0, .int .i64 0]) 3 24 Try.underlying29 hi hz0 hz1 hz2 rfl (by decide) w2.heap.size _ nk xs rfl hO3 #[.int .i64 r.n, .int .i64 r.at_, .int .i64 r.k] rfl rfl ?d0 ?d1 ?d2 hb3.size w2.heap.size (Nat.le_refl _) hb3 ?_)
        case d0 => exact ⟨rfl, rfl, rfl⟩
        case d1 => unfold maxLen; omega
        case d2 => omega
        intro v5 w5 hO5 hb5 _ _
        have hO6 : OwnE w5 w2.heap.size 65 3 v5 (grF (fun x => decide (s < x.n)) (l.take (k + 1))).length (grV (grF (fun x => decide (s < x.n)) (l.take (k + 1)))) := by
          rw [HKV.out, HKN.out]
          exact hO5
        clear hO5 hO3 hb3 hX
        go_wp2_with fail
        go_roundw
        case rel => exact ⟨k + 1, by omega, by go_num, hO6, hb5⟩
        case measure => simp [intOf]; omega
      · have HK2 : Hid (grF (fun x => decide (s < x.n)) (l.take (k + 1)) = grF (fun x => decide (s < x.n)) (l.take k)) := Lib.hid (by rw [HK1.out, if_neg (by simpa using he), List.append_nil])
        clear HK1
        go_wp2_with fail
        go_roundw
        case rel => exact ⟨k + 1, by omega, by go_num, by rw [HK2.out]; exact hO3, hb3⟩
        case measure => simp [intOf]; omega
    · obtain rfl : k = n := by omega
      have hlk : l.take k = l := List.take_of_length_le (by have := HLN.out; omega)
      rw [hlk] at hO
      have hle := HFl.out l
      rw [HLN.out] at hle
      have hX0w := HX0.out wr hbw
      have hX1w := HX1.out wr hbw
      have hO2 := hO.base (Nat.zero_le _)
      have hbz := hb.trans (hbw.mono hsz2)
      obtain ⟨a5, c5, rfl⟩ := hO2.formG
      obtain ⟨_, _, _, _, _, _, _, _⟩ := hX0w.cells
      obtain ⟨_, _, _, _, _, _, _, _⟩ := hX0w.frees
      clear hO hbw hb hlk HFt HFl HR HX0 HX1
      generalize hfl : grF (fun x => decide (s < x.n)) l = fl at hO2 hle ⊢
      have HFL := Lib.hid hfl
      clear hfl
      have hwr : IntKind.i64.wrap ((k : Int) - fl.length) = (k : Int) - fl.length := IntWalk.i64_in _ ⟨by omega, by omega⟩
      go_upto_region 10 with fail
      have ho6 := (Only.refl g0 wr).setCell 4 (.slice a5 fl.length c5)
      have hX0_6 := at8_set4 hX0w (.slice a5 fl.length c5)
      have hX1_6 := hX1w.only hne10 ho6
      have hO6 := hO2.only8 hX0w ho6 (by decide)
      have hb6 := hbz.trans (ho6.below (Nat.le_refl _))
      generalize wr.setCell ⟨g0, 4, none⟩ (.slice a5 fl.length c5) = w6 at hX0_6 hX1_6 hO6 hb6 ⊢
      clear ho6 hX0w hX1w hO2 hbz
      have HLE : Hid ((.returned (.tuple #[.agg #[.int .i64 c.m, .int .i64 c.t, .int .i64 c.f, .int .i64 c.a, .slice a5 fl.length c5, .bool cm, .int .i64 gr, .int .i64 gv], .int .i64 ((k : Int) - fl.length)]) : Ending) = .returned (.tuple #[.agg #[.int .i64 c.m, .int .i64 c.t, .int .i64 c.f, .int .i64 c.a, .slice a5 fl.length c5, .bool cm, .int .i64 gr, .int .i64 gv], .int .i64 ((k : Int) - (grF (fun x => decide (s < x.n)) l).length)])) := Lib.hid (by rw [HFL.out])
      obtain ⟨_, _, _, _, _, _, _, _⟩ := hX0_6.cells
      obtain ⟨_, _, _, _, _, _, _, _⟩ := hX1_6.cells
      obtain ⟨_, _, _, _, _, _, _, _⟩ := hX1_6.frees
      have ho7 := put8_only w6 g1 (.int .i64 c.m) (.int .i64 c.t) (.int .i64 c.f) (.int .i64 c.a) (.slice a5 fl.length c5) (.bool cm) (.int .i64 gr) (.int .i64 gv)
      have HO7 := Lib.hid (hO6.only8 hX1_6 ho7 (by decide))
      have hZ := at8_put8 hX1_6 (.int .i64 c.m) (.int .i64 c.t) (.int .i64 c.f) (.int .i64 c.a) (.slice a5 fl.length c5) (.bool cm) (.int .i64 gr) (.int .i64 gv)
      have HBZ := Lib.hid (hb6.trans (ho7.below hle1))
      obtain ⟨d0, d1, d2, d3, d4, d5, d6, d7⟩ := hZ.cells
      clear hZ ho7
      go_wp2_with fail
      generalize ((((((((w6.setCell ⟨g1, 0, none⟩ (.int .i64 c.m)).setCell ⟨g1, 1, none⟩ (.int .i64 c.t)).setCell ⟨g1, 2, none⟩ (.int .i64 c.f)).setCell ⟨g1, 3, none⟩ (.int .i64 c.a)).setCell ⟨g1, 4, none⟩ (.slice a5 fl.length c5)).setCell ⟨g1, 5, none⟩ (.bool cm)).setCell ⟨g1, 6, none⟩ (.int .i64 gr)).setCell ⟨g1, 7, none⟩ (.int .i64 gv)) = w7 at HO7 HBZ d0 d1 d2 d3 d4 d5 d6 d7 ⊢
      refine bodyPost_ret (v := .tuple #[.agg #[.int .i64 c.m, .int .i64 c.t, .int .i64 c.f, .int .i64 c.a, .slice a5 fl.length c5, .bool cm, .int .i64 gr, .int .i64 gv], .int .i64 ((k : Int) - fl.length)]) (by simp [results, Try.results24, go_sem, d0, d1, d2, d3, d4, d5, d6, d7]) rfl ⟨.slice a5 fl.length c5, HLE.out, by rw [HFL.out]; exact HO7.out, by rw [HG.out]; exact HBZ.out⟩
end Go.Proofs.Ytdbmhgfdcdcgfaa
