/- GapsOften: the walk. -/
import Derived.Test.YtdbmhgfdcdcgfaaGpP
import Derived.Test.YtdbmhgfdcdcgfaaGpOfM
import Derived.Test.YtdbmhgfdcdcgfaaMpA
import Derived.Test.YtdbmhgfdcdcgfaaRecs
namespace Go.Proofs.Ytdbmhgfdcdcgfaa
open Go.RowKit
set_option linter.unusedVariables false
set_option linter.unusedSimpArgs false
def gpActP : List (Value → Prop) := [isNum .i64, isNum .i64, isNum .i64]
theorem gpAct_at {w wr : World} {a : Option Addr} {n k : Nat} (h : Recs gpActP w a n) (hb : Below w.heap.size w wr) (hk : k < n) :
    ∃ b off, a = some ⟨b, off, none⟩ ∧ b < w.heap.size ∧ ∃ (kd s p : Int), wr.cell? ⟨b, off + k * 3, none⟩ = some (.int .i64 kd) ∧ wr.cell? ⟨b, off + k * 3 + 1, none⟩ = some (.int .i64 s) ∧ wr.cell? ⟨b, off + k * 3 + 2, none⟩ = some (.int .i64 p) := by
  rcases h with h | ⟨b, off, rfl, hlt, hc⟩
  · omega
  · obtain ⟨v0, h0, kd, rfl, w0⟩ := hc k hk 0 _ rfl
    obtain ⟨v1, h1, s, rfl, w1⟩ := hc k hk 1 _ rfl
    obtain ⟨v2, h2, p, rfl, w2⟩ := hc k hk 2 _ rfl
    refine ⟨b, off, rfl, hlt, kd, s, p, ?_, ?_, ?_⟩
    · rw [hb.cell (p := ⟨b, off + k * 3, none⟩) hlt]; exact h0
    · rw [hb.cell (p := ⟨b, off + k * 3 + 1, none⟩) hlt]; exact h1
    · rw [hb.cell (p := ⟨b, off + k * 3 + 2, none⟩) hlt]; exact h2
theorem gp_small (x : Int) (h0 : -4611686018427387904 ≤ x) (h1 : x ≤ 4611686018427387904) : (Lit.int .i64 x).wf = true := by
  simp [Lit.wf, IntKind.min, IntKind.max, IntKind.signed, IntKind.bits]; omega
section
variable {W W' : World} {b g : Nat} {T : TypeId} {c0 c1 c2 c3 : Value}
theorem At4.grownMap (h : At4 T W g c0 c1 c2 c3) (hg : W.grownBy W' (some b)) (hb : ∃ es c, W.heap[b]? = some (.map es c)) : At4 T W' g c0 c1 c2 c3 := by
  obtain ⟨es, c, hm⟩ := hb
  unfold At4 at h ⊢
  rw [hg.block g (lt_of_objG h) (fun e => by cases e; rw [hm] at h; cases h)]
  exact h
theorem At3.grownMap (h : At3 T W g c0 c1 c2) (hg : W.grownBy W' (some b)) (hb : ∃ es c, W.heap[b]? = some (.map es c)) : At3 T W' g c0 c1 c2 := by
  obtain ⟨es, c, hm⟩ := hb
  unfold At3 at h ⊢
  rw [hg.block g (lt_of_objG h) (fun e => by cases e; rw [hm] at h; cases h)]
  exact h
theorem At4.keptG (h : At4 T W g c0 c1 c2 c3) (hk : KeptG W W') (h1 : T ≠ 57) (h2 : T ≠ 69) : At4 T W' g c0 c1 c2 c3 := by
  unfold At4 at h ⊢
  rw [hk.block g _ h (not_isGp h1 h2)]
  exact h
theorem At3.keptG (h : At3 T W g c0 c1 c2) (hk : KeptG W W') (h1 : T ≠ 57) (h2 : T ≠ 69) : At3 T W' g c0 c1 c2 := by
  unfold At3 at h ⊢
  rw [hk.block g _ h (not_isGp h1 h2)]
  exact h
end
theorem OwnE.grownMapG {W W' : World} {b0 b : Nat} {e : TypeId} {size : Nat} {v : Value} {n : Nat} {xs : List Value} (h : OwnE W b0 e size v n xs) (hg : W.grownBy W' (some b)) (hb : ∃ es c, W.heap[b]? = some (.map es c)) : OwnE W' b0 e size v n xs := by
  obtain ⟨es, c, hm⟩ := hb
  exact h.keep hg.size fun k cs hk hc => hg.block k (lt_of_objG hc) (fun e => by cases e; rw [hm] at hc; cases hc)
theorem GIn.grownMap {W W' : World} {base gg b : Nat} {c : GC} {cm : Bool} {gr : Int} {v : Value} {l : List GW} {gv : Int} (h : GIn W base gg c cm gr v l gv) (hg : W.grownBy W' (some b)) (hb : ∃ es c, W.heap[b]? = some (.map es c)) : GIn W' base gg c cm gr v l gv := by
  refine ⟨h.bs, ?_, h.own.grownMapG hg hb, h.ok, h.len, h.up, h.gb, h.nb, h.ab⟩
  obtain ⟨es, c, hm⟩ := hb
  have h8 := h.at8
  unfold At8 at h8 ⊢
  rw [hg.block gg (lt_of_objG h8) (fun e => by cases e; rw [hm] at h8; cases h8)]
  exact h8
theorem MapI.keptG {W W' : World} {b n : Nat} {f : Int → Option Int} (h : MapI W b n f) (hk : KeptG W W') : MapI W' b n f := by
  obtain ⟨es, c, hm⟩ := h.isMap
  exact h.same (hk.block b _ hm (by rintro ⟨_, _, _, e, _⟩; cases e))
theorem MapB.keptG {W W' : World} {b n : Nat} {f : Int → Option Bool} (h : MapB W b n f) (hk : KeptG W W') : MapB W' b n f := by
  obtain ⟨es, c, hm⟩ := h.isMap
  exact h.same (hk.block b _ hm (by rintro ⟨_, _, _, e, _⟩; cases e))
namespace gapsOften
theorem give_bd {G gr : Int} {c : GC} {cm : Bool} {l : List GW} (hg : GOk cm G gr l) (hG : -100 ≤ G) (n : Int) (hn : -100 < n ∧ n ≤ 2000) (hl : l.length ≤ 1024) (hm : 1 ≤ c.m) : 0 ≤ cmU c cm gr l n ∧ cmU c cm gr l n ≤ 4000 := by
  have hgn : gpN n = n := gpN_same ⟨by omega, by omega⟩
  unfold cmU
  rw [hgn]
  rcases hg with ⟨rfl, rfl⟩ | ⟨rfl, rfl, rfl⟩
  · rw [if_pos rfl]
    split
    · unfold gpGive; omega
    · omega
  · rw [if_neg (by decide)]; omega
set_option maxRecDepth 100000 in
set_option maxHeartbeats 6400000 in
theorem walk (a00 a01 a02 a03 : Int) (p1 : Option Addr) (len1 cap1 : Nat) (w00 : (Lit.int .i64 a00).wf = true) (w01 : (Lit.int .i64 a01).wf = true) (w02 : (Lit.int .i64 a02).wf = true) (w03 : (Lit.int .i64 a03).wf = true) (w : World) (w1 : Recs gpActP w p1 len1) (hl1 : len1 ≤ 9223372036854775807) :
    Calls Try.prog 5 #[.agg #[.int .i64 a00, .int .i64 a01, .int .i64 a02, .int .i64 a03], .slice p1 len1 cap1] w fun e w' => e = .returned (.bool true) ∧ Below w.heap.size w w' := by
  clear w00 w01 w02 w03
  have hm3 : ∀ z : Int, bits .and .i64 z 3 = z % 4 := fun z => i64_mask z 2 (by omega)
  have hm15 : ∀ z : Int, bits .and .i64 z 15 = z % 16 := fun z => i64_mask z 4 (by omega)
  have hm31 : ∀ z : Int, bits .and .i64 z 31 = z % 32 := fun z => i64_mask z 5 (by omega)
  have HACT := Lib.hid (fun (k : Nat) (hk : k < len1) (W : World) (hb : Below w.heap.size w W) => gpAct_at w1 hb hk)
  clear w1
  obtain ⟨M, hM⟩ : ∃ M, 1 + a00 % 16 = M := ⟨_, rfl⟩
  obtain ⟨T, hT⟩ : ∃ T, 1 + a01 % 4 = T := ⟨_, rfl⟩
  have hM1 : 1 ≤ M := by omega
  have hM2 : M ≤ 16 := by omega
  have hT1 : 1 ≤ T := by omega
  have hT2 : T ≤ 4 := by omega
  have hX0 := at4_new 23 w w.heap.size (.int .i64 a00) (.int .i64 a01) (.int .i64 a02) (.int .i64 a03) rfl
  have hb0 : Below w.heap.size w (w.alloc (.cells #[.int .i64 a00, .int .i64 a01, .int .i64 a02, .int .i64 a03] 23)) := (Below.refl _ _).alloc (Nat.le_refl _) _
  go_enter Try.func5, Try.ntmps5
  go_upto_region 1 with fail
  generalize (w.alloc (.cells #[.int .i64 a00, .int .i64 a01, .int .i64 a02, .int .i64 a03] 23)) = w0 at hX0 hb0 ⊢
  obtain ⟨g0, hg0⟩ : ∃ g0, w.heap.size = g0 := ⟨_, rfl⟩
  rw [hg0] at hX0 ⊢
  have HG0 := Lib.hid hg0
  clear hg0
  go_wp2_with fail
  refine (gpAwake_any w0).mono ?_
  rintro e wa ⟨rfl, hba⟩
  have hXa := hX0.later hba
  have hb1 := hb0.trans (hba.mono hb0.size)
  obtain ⟨_, _, _, _⟩ := hXa.cells
  obtain ⟨_, _, _, _⟩ := hXa.frees
  clear hX0 hb0 hba
  go_upto_region 4 with fail
  have hXb1 : At4 23 (wa.setCell ⟨g0, 0, none⟩ (.int .i64 M)) g0 (.int .i64 M) (.int .i64 a01) (.int .i64 a02) (.int .i64 a03) := block_setCell hXa
  have hXb : At4 23 ((wa.setCell ⟨g0, 0, none⟩ (.int .i64 M)).setCell ⟨g0, 1, none⟩ (.int .i64 T)) g0 (.int .i64 M) (.int .i64 T) (.int .i64 a02) (.int .i64 a03) := block_setCell hXb1
  have hob := ((Only.refl g0 wa).setCell 0 (.int .i64 M)).setCell 1 (.int .i64 T)
  have hb2 := hb1.trans (hob.below (Nat.le_of_eq HG0.out))
  generalize ((wa.setCell ⟨g0, 0, none⟩ (.int .i64 M)).setCell ⟨g0, 1, none⟩ (.int .i64 T)) = wb at hXb hb2 ⊢
  clear hXb1 hob hXa hb1
  rename_i _ _ _ _ _ _ _ _
  obtain ⟨_, _, _, _⟩ := hXb.cells
  go_wp2_with fail
  refine (gpNew_any ⟨M, T, a02, a03⟩ wb).mono ?_
  rintro e wc ⟨gg, rfl, hGc, hkc⟩
  have hXc := hXb.later hkc
  have hbc := hb2.trans (hkc.mono hb2.size)
  have hgB : w.heap.size ≤ wb.heap.size := hb2.size
  have hgx : g0 < wb.heap.size := hXb.lt
  have hcm : (⟨M, T, a02, a03⟩ : GC).clip.m = M := by show gpM M = M; unfold gpM; omega
  have hct : (⟨M, T, a02, a03⟩ : GC).clip.t = T := by show gpT T = T; unfold gpT; omega
  generalize (⟨M, T, a02, a03⟩ : GC).clip = c at hGc hcm hct
  generalize wb.heap.size = gh at hGc hgB hkc hgx
  have HCT := Lib.hid hct
  have HCM := Lib.hid hcm
  clear hXb hb2 hkc hM hT hcm hct
  have hal1 : Below wc.heap.size wc (wc.alloc (.map #[] 0)) := (Below.refl _ _).alloc (Nat.le_refl _) _
  have hal2 : Below (wc.alloc (.map #[] 0)).heap.size (wc.alloc (.map #[] 0)) ((wc.alloc (.map #[] 0)).alloc (.map #[] 0)) := (Below.refl _ _).alloc (Nat.le_refl _) _
  have hal := hal1.trans (hal2.mono hal1.size)
  have hGd := hGc.later hal
  have hXd := hXc.later hal
  have hbd := hbc.trans (hal.mono hbc.size)
  have hMI : MapI ((wc.alloc (.map #[] 0)).alloc (.map #[] 0)) wc.heap.size 0 (fun _ => none) := (mapI_new wc).same (hal2.block _ (by simp))
  have hMB : MapB ((wc.alloc (.map #[] 0)).alloc (.map #[] 0)) (wc.heap.size + 1) 0 (fun _ => none) := by
    have := mapB_new (wc.alloc (.map #[] 0))
    rw [World.size_alloc] at this
    exact this
  have hmm := @run_makeMap Try.prog
  go_upto_region 8 with fail
  clear hmm
  generalize (wc.alloc (.map #[] 0)).alloc (.map #[] 0) = wd at hGd hXd hbd hMI hMB ⊢
  have hgI : gh ≤ wc.heap.size := by have := hGc.bs; have := hGc.at8.lt; omega
  generalize hgb : wc.heap.size + 1 = bb at hMB ⊢
  generalize wc.heap.size = bi at hMI hgI hgb ⊢
  have hib : bi ≠ bb := by omega
  have hgb2 : gh ≤ bb := by omega
  clear hal hal1 hal2 hGc hXc hbc hgb
  have hI0 := inv_start T (by omega)
  have hG0 : GOk false (-100) 0 [] := .inr ⟨rfl, rfl, rfl⟩
  go_wp2_with fail
  go_loopw [8, 9, 10] (fun s8 s9 s10 wr => ∃ (k : Nat) (cm : Bool) (gr : Int) (l : List GW) (v : Value) (gv G top now : Int) (f : Int → Option Int) (b : Int → Option Bool), k ≤ len1 ∧ k ≤ 60 ∧ s10 = .int .i64 k ∧ s8 = .int .i64 top ∧ s9 = .int .i64 now ∧ 0 ≤ now ∧ now ≤ 15 * k ∧ 0 ≤ top ∧ top ≤ 23 * k ∧ -100 ≤ G ∧ G ≤ top ∧ 0 ≤ gv ∧ gv ≤ 5000 * k ∧ GIn wr gh gg c cm gr v l gv ∧ GOk cm G gr l ∧ Inv T G l f b ∧ MapI wr bi (2000 * k) f ∧ MapB wr bb k b ∧ At4 23 wr g0 (.int .i64 M) (.int .i64 T) (.int .i64 a02) (.int .i64 a03) ∧ Below w.heap.size w wr) (fun _ _ s10 _ => 60 - (intOf s10).toNat)
  case atStart => exact ⟨0, false, 0, [], _, 0, -100, 0, 0, fun _ => none, fun _ => none, Nat.zero_le _, by omega, rfl, rfl, rfl, by omega, by omega, by omega, by omega, by omega, by omega, by omega, by omega, hGd, hG0, hI0, hMI, hMB, hXd, hbd⟩
  case round =>
    obtain ⟨k, cm, gr, l, v, gv, G, top, now, f, b, hk, hk60, rfl, rfl, rfl, hn0, hn1, ht0, ht1, hG1, hG2, hv0, hv1, hG, hgo, hinv, hMIk, hMBk, hX, hb⟩ := hrel
    clear hGd hXd hbd hMI hMB hI0 hG0
    by_cases hlt : k < len1 ∧ k < 60
    · obtain ⟨hlt, hlt60⟩ := hlt
      obtain ⟨ab, off, rfl, habl, kd, s, p, ha0, ha1, ha2⟩ := HACT.out k hlt wr hb
      have hY := at3_new 36 wr wr.heap.size (.int .i64 kd) (.int .i64 s) (.int .i64 p) rfl
      have hal : Below wr.heap.size wr (wr.alloc (.cells #[.int .i64 kd, .int .i64 s, .int .i64 p] 36)) := (Below.refl _ _).alloc (Nat.le_refl _) _
      have hG3 := hG.later hal
      have hX3 := hX.later hal
      have hMI3 := hMIk.same (hal.block bi (by obtain ⟨es, c, h⟩ := hMIk.isMap; exact lt_of_objG h))
      have hMB3 := hMBk.same (hal.block bb (by obtain ⟨es, c, h⟩ := hMBk.isMap; exact lt_of_objG h))
      have hb3 := hb.trans (hal.mono hb.size)
      go_upto_region 13 with fail
      generalize (wr.alloc (.cells #[.int .i64 kd, .int .i64 s, .int .i64 p] 36)) = w3 at hY hG3 hX3 hMI3 hMB3 hb3 ⊢
      generalize wr.heap.size = ga at hY ⊢
      clear hal hG hX hMIk hMBk hb ha0 ha1 ha2
      obtain ⟨_, _, _⟩ := hY.cells
      obtain ⟨q, hq⟩ : ∃ q, p % 16 = q := ⟨_, rfl⟩
      have hq0 : 0 ≤ q := by omega
      have hq1 : q ≤ 15 := by omega
      have hsm := hG3.small
      have hcm := hG3.ok.1.1
      by_cases hkd : kd = 2
      · subst hkd
        have HD := Lib.hid (gpDue_any hG3 (now + q) ⟨hv0, by omega⟩)
        rw [gpK_same (n := now + q) ⟨by omega, by omega⟩] at HD
        have HA := Lib.hid (fun f' (hp : Plus (gpDueD c (now + q) l) f f') => inv_due hinv HCT.out (now + q) hp)
        have HB := Lib.hid (fun f' (j : Nat) (d : Int) (hj : (gpDueD c (now + q) l)[j]? = some d) (hp : Plus ((gpDueD c (now + q) l).take j) f f') => inv_ask hinv HCT.out (now + q) j d hj hp)
        have HNw := Lib.hid (fun (j : Nat) (d : Int) (hj : (gpDueD c (now + q) l)[j]? = some d) => dueD_new c (now + q) l hinv.up j d hj)
        have hDl := gpDueD_len c (now + q) l
        have hKl := gpDueK_len c (now + q) l
        have hgo2 : GOk cm G gr (gpDueK c (now + q) l) := by
          rcases hgo with ⟨rfl, rfl⟩ | ⟨rfl, rfl, rfl⟩
          · exact .inl ⟨rfl, rfl⟩
          · exact .inr ⟨rfl, rfl, rfl⟩
        have hgvb : 0 ≤ gv + ((l.length : Int) - (gpDueK c (now + q) l).length) ∧ gv + ((l.length : Int) - (gpDueK c (now + q) l).length) ≤ 5000 * ((k : Int) + 1) := by omega
        generalize gv + ((l.length : Int) - (gpDueK c (now + q) l).length) = gv' at HD hgvb
        have HDb0 : ∀ (j : Nat) (d : Int), (gpDueD c (now + q) l)[j]? = some d → -1099511627776 ≤ d ∧ d ≤ 1099511627776 := fun j d hj => by
          obtain ⟨x, hx, rfl, _⟩ := dueD_mem c (now + q) l d (List.mem_of_getElem? hj)
          have h1 := hG3.nb x hx
          have h2 := hG3.gb
          omega
        generalize hDD : gpDueD c (now + q) l = D at *
        generalize gpDueK c (now + q) l = l' at *
        have hDn : D.length ≤ 1024 := by omega
        clear hinv hgo hDD hDl hKl
        have HDb := Lib.hid HDb0
        clear HDb0
        go_wp2_with fail
        refine HD.out.mono ?_
        rintro e w4 ⟨dv, v4, rfl, hO4, hG4, hk4, hK4⟩
        have hX4 := hX3.keptG hK4 (by decide) (by decide)
        have hMI4 := hMI3.keptG hK4
        have hMB4 := hMB3.keptG hK4
        have hb4 := hb3.trans (hk4.mono hgB)
        obtain ⟨a4, c4, rfl⟩ := hO4.formG
        generalize w3.heap.size = B at hO4
        generalize hnd : D.length = nD at *
        have HND := Lib.hid hnd
        clear hY hG3 hX3 hMI3 hMB3 hb3 hk4 hK4 HD hsm hcm hnd
        go_wp2_with fail
        go_loopw [62] (fun i wz => ∃ (j : Nat) (f' : Int → Option Int), j ≤ nD ∧ i = .int .i64 j ∧ Hid (Plus (D.take j) f f') ∧ OwnE wz B 3 1 (.slice a4 nD c4) nD (D.map (Value.int .i64)) ∧ GIn wz gh gg c cm gr v4 l' gv' ∧ MapI wz bi (2000 * k + j) f' ∧ MapB wz bb k b ∧ At4 23 wz g0 (.int .i64 M) (.int .i64 T) (.int .i64 a02) (.int .i64 a03) ∧ Below w.heap.size w wz) (fun i _ => nD - (intOf i).toNat)
        case atStart => exact ⟨0, f, Nat.zero_le _, rfl, Lib.hid (plus_nil f), hO4, hG4, hMI4, hMB4, hX4, hb4⟩
        case round =>
          obtain ⟨j, f', hj, rfl, hp, hO, hG, hMI, hMB, hX, hb⟩ := hrel
          clear hO4 hG4 hMI4 hMB4 hX4 hb4
          by_cases hjlt : j < nD
          · obtain ⟨d, hd⟩ : ∃ d, D[j]? = some d := ⟨_, List.getElem?_eq_getElem (by have := HND.out; omega)⟩
            obtain ⟨g, go, cap, e6, _, hcm6, _, _, hcz⟩ := hO.1.cells (by omega)
            simp only [Value.slice.injEq, true_and] at e6
            obtain ⟨rfl, rfl⟩ := e6
            have c0 := (hcz j _ (show (D.map (Value.int .i64))[j]? = some (.int .i64 d) by rw [List.getElem?_map, hd]; rfl)).1
            obtain ⟨⟨t0, t1⟩, hbd⟩ := HB.out f' j d hd hp.out
            obtain ⟨d0, d1⟩ := HDb.out j d hd
            have hwf := gp_small d (by omega) (by omega)
            have q1 := hMI.eq (x := d) hwf
            have hp2 := plus_snoc hp.out d (HNw.out j d hd)
            obtain ⟨t, ht⟩ : ∃ t, (f' d).getD 0 = t := ⟨_, rfl⟩
            rw [ht] at q1 t0 t1 hp2
            have HP2 : Hid (Plus (D.take (j + 1)) f (fun y => if y = d then some (t + 1) else f' y)) := Lib.hid (by rw [List.take_add_one, hd]; exact hp2)
            have HBD := Lib.hid hbd
            clear hp2 hcz ht hp hd hbd
            go_wp2_with (at_mapUpdate; refine wpList_putI _ rfl _ _ _ rfl bi (2000 * k + j) f' rfl hMI ?m0 d (t + 1) rfl ?m1 rfl ?m2 ?_)
            case m0 => unfold maxLen; omega
            case m1 => exact hwf
            case m2 => exact gp_small _ (by omega) (by omega)
            intro w6 hMI6 hg6
            have hO6 := hO.grownMapG hg6 hMI.isMap
            have hG6 := hG.grownMap hg6 hMI.isMap
            have hX6 := hX.grownMap hg6 hMI.isMap
            have hMB6 := hMB.kept hg6 (fun e => hib (Option.some.inj e).symm)
            have hb6 : Below w.heap.size w w6 := hb.grown hg6 hb.size (fun q hq => by cases hq; omega)
            clear hO hG hX hMI hMB hb hg6 q1 c0
            have q2 := hMI6.eq (x := d) hwf
            simp only [if_true, Option.getD] at q2
            have q3 := hMB6.eq (x := d) hwf
            rw [HBD.out] at q3
            have hdt : decide (T < t + 1) = false := decide_eq_false (by omega)
            obtain ⟨_, _, _, _⟩ := hX6.cells
            go_wp2_with fail
            go_roundw
            case rel => exact ⟨j + 1, fun y => if y = d then some (t + 1) else f' y, by omega, by go_num, HP2, hO6, hG6, hMI6, hMB6, hX6, hb6⟩
            case measure => simp [intOf]; omega
          · obtain rfl : j = nD := by omega
            have hDt : D.take j = D := List.take_of_length_le (by have := HND.out; omega)
            rw [hDt] at hp
            have hinv2 := HA.out f' hp.out
            clear hDt hp hO
            go_wp2_with fail
            go_roundw
            case rel => exact ⟨k + 1, cm, gr, l', v4, gv', G, top, now + q, f', b, by omega, by omega, by go_num, rfl, rfl, by omega, by push_cast; omega, ht0, by push_cast; omega, hG1, hG2, hgvb.1, by push_cast; omega, hG, hgo2, hinv2, hMI.mono (by omega), hMB.mono (Nat.le_succ k), hX, hb⟩
            case measure => simp [intOf]; omega
      · have hkd2 : (kd == 2) = false := by simpa using hkd
        obtain ⟨q2, hq2⟩ : ∃ q2, s % 32 = q2 := ⟨_, rfl⟩
        have hq20 : 0 ≤ q2 := by omega
        have hq21 : q2 ≤ 31 := by omega
        obtain ⟨n, hn⟩ : ∃ n, top + q2 - 8 = n := ⟨_, rfl⟩
        have hnb : -100 < n ∧ n ≤ 2000 := by omega
        have hlE : cm = false → l = [] := fun h => by
          rcases hgo with ⟨h1, _⟩ | ⟨_, _, h1⟩
          · rw [h1] at h; cases h
          · exact h1
        have HC := Lib.hid (gpCame_any hG3 hlE n (now + q) ⟨hv0, by omega⟩)
        have HI := Lib.hid (fun hu => inv_came (c := c) hinv hgo n (now + q) ⟨hnb.1, by omega⟩ hu)
        have hgb := give_bd (c := c) hgo hG1 n hnb hsm hcm
        have hgv2 : 0 ≤ gv + cmU c cm gr l n ∧ gv + cmU c cm gr l n ≤ 5000 * ((k : Int) + 1) := by omega
        generalize gv + cmU c cm gr l n = gv' at HC hgv2
        generalize cmU c cm gr l n = U at HC
        generalize cmL c cm gr l n (now + q) = l' at *
        generalize cmG cm gr n = gr' at *
        have hGG : max G n ≤ max top n := by omega
        have htn : max top n ≤ 23 * ((k : Int) + 1) := by omega
        have hGm : -100 ≤ max G n := by omega
        have htm : 0 ≤ max top n := by omega
        have hwn : IntKind.i64.wrap (top + q2 - 8) = n := by rw [hn]; exact IntWalk.i64_in _ ⟨by omega, by omega⟩
        clear hkd hgo hinv hlE hgb
        generalize max G n = G' at *
        have hGn := Lib.hid hn
        clear hn
        obtain ⟨_, _, _, _⟩ := hX3.cells
        go_upto_region 24 with fail
        obtain ⟨P, hP⟩ : ∃ P, max top n = P := ⟨_, rfl⟩
        rw [hP] at hGG htn htm ⊢
        have HP := Lib.hid hP
        clear hP hwn hq2 hq
        go_wp2_with fail
        refine HC.out.mono ?_
        rintro e w5 ⟨rfl, ⟨v5, hG5⟩, hk5, hK5⟩
        have hX5 := hX3.keptG hK5 (by decide) (by decide)
        have hMI5 := hMI3.keptG hK5
        have hMB5 := hMB3.keptG hK5
        have hb5 := hb3.trans (hk5.mono hgB)
        obtain ⟨hinv, hgo⟩ := HI.out hG5.up
        have HINV := Lib.hid hinv
        have HGO := Lib.hid hgo
        clear hY hG3 hX3 hMI3 hMB3 hb3 hk5 hK5 HC HI hsm hcm hinv hgo
        have hwf := gp_small n (by omega) (by omega)
        go_wp2_with (at_mapUpdate; refine wpList_putB _ rfl _ _ _ rfl bb k b rfl hMB5 ?m0 n true rfl ?m1 rfl trivial ?_)
        case m0 => unfold maxLen; omega
        case m1 => exact hwf
        intro w6 hMB6 hg6
        have hG6 := hG5.grownMap hg6 hMB5.isMap
        have hX6 := hX5.grownMap hg6 hMB5.isMap
        have hMI6 := hMI5.kept hg6 (fun e => hib (Option.some.inj e))
        have hb6 : Below w.heap.size w w6 := hb5.grown hg6 hb5.size (fun q hq => by cases hq; omega)
        have HBB : Hid (∃ b', b' = (fun y => if y = n then some true else b y)) := Lib.hid ⟨_, rfl⟩
        obtain ⟨b', hb'⟩ := HBB.out
        rw [← hb'] at HINV hMB6
        clear hG5 hX5 hMI5 hMB5 hb5 hg6 HBB hb'
        go_wp2_with fail
        refine (gpWanting_any hG6).mono ?_
        rintro e w7 ⟨v7, rfl, hO7, hk7⟩
        have hG7 := hG6.later hk7
        have hX7 := hX6.later hk7
        have hMI7 := hMI6.same (hk7.block bi (by obtain ⟨es, c, h⟩ := hMI6.isMap; exact lt_of_objG h))
        have hMB7 := hMB6.same (hk7.block bb (by obtain ⟨es, c, h⟩ := hMB6.isMap; exact lt_of_objG h))
        have hb7 := hb6.trans (hk7.mono hb6.size)
        obtain ⟨a7, c7, rfl⟩ := hO7.formG
        generalize w6.heap.size = B at hO7
        have hlm := hG6.len
        rw [HCM.out] at hlm
        clear hG6 hX6 hMI6 hMB6 hb6 hk7
        have HS : Hid (∀ (j : Nat), j < l'.length → ∃ x ∈ l', ((gpS l').map (Value.int .i64))[j]? = some (.int .i64 x.n)) := Lib.hid fun j hj => ⟨l'[j], List.getElem_mem _, by
          unfold gpS
          rw [List.getElem?_map, List.getElem?_map, List.getElem?_eq_getElem hj]
          rfl⟩
        have HNT : Hid (∀ x ∈ l', (b' x.n).getD false = false ∧ x.n < P) := Lib.hid fun x hx => ⟨HINV.out.not x hx, by have := HINV.out.lt x hx; omega⟩
        have HNB := Lib.hid (fun (x : GW) (hx : x ∈ l') => (⟨(hG7.nb x hx).1, by have := (hG7.nb x hx).2; have := hG7.gb; omega⟩ : -1099511627776 ≤ x.n ∧ x.n ≤ 1099511627776))
        generalize hnl : l'.length = N at *
        have HNL := Lib.hid hnl
        generalize (gpS l').map (Value.int .i64) = xs at hO7 HS
        have hdm : decide (M < (N : Int)) = false := decide_eq_false (by omega)
        have hN16 : N ≤ 16 := by omega
        obtain ⟨_, _, _, _⟩ := hX7.cells
        clear hnl hlm
        go_upto_region 29 with fail
        go_wp2_with fail
        go_loopw [106] (fun i wz => ∃ (j : Nat), j ≤ N ∧ i = .int .i64 j ∧ wz = w7) (fun i _ => N - (intOf i).toNat)
        case atStart => exact ⟨0, Nat.zero_le _, rfl, by simp⟩
        case round =>
          obtain ⟨j, hj, rfl, hwz⟩ := hrel
          subst hwz
          by_cases hjlt : j < N
          · obtain ⟨x, hx, hxj⟩ := HS.out j hjlt
            obtain ⟨g, go, cap, e6, _, hcm6, _, _, hcz⟩ := hO7.1.cells (by omega)
            simp only [Value.slice.injEq, true_and] at e6
            obtain ⟨rfl, rfl⟩ := e6
            have c0 := (hcz j _ hxj).1
            obtain ⟨d0, d1⟩ := HNB.out x hx
            obtain ⟨d2, d3⟩ := HNT.out x hx
            have q1 := hMB7.eq (x := x.n) (gp_small _ (by omega) (by omega))
            rw [d2] at q1
            generalize x.n = d at c0 q1 d0 d1 d3
            clear hcz d2 hxj hx
            go_wp2_with fail
            go_roundw
            case rel => exact ⟨j + 1, by omega, by go_num, trivial⟩
            case measure => simp [intOf]; omega
          · obtain rfl : j = N := by omega
            go_wp2_with fail
            go_roundw
            case rel => exact ⟨k + 1, true, gr', l', v5, gv', G', P, now + q, f, b', by omega, by omega, by go_num, rfl, rfl, by omega, by push_cast; omega, by omega, by push_cast; omega, hGm, hGG, hgv2.1, by push_cast; omega, hG7, HGO.out, HINV.out, hMI7.mono (by omega), hMB7, hX7, hb7⟩
            case measure => simp [intOf]; omega
    · by_cases hk1 : k < len1
      · have hk2 : k = 60 := by omega
        subst hk2
        go_wp2_with fail
        go_ret
        exact ⟨rfl, hb⟩
      · have hk2 : k = len1 := by omega
        subst hk2
        go_wp2_with fail
        go_ret
        exact ⟨rfl, hb⟩
end gapsOften
end Go.Proofs.Ytdbmhgfdcdcgfaa
