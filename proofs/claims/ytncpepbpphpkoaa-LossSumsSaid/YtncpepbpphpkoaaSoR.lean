/- source: Run. -/
import Derived.Test.YtncpepbpphpkoaaSoG
namespace Go.Proofs.Ytncpepbpphpkoaa
open Go.RowKit
set_option linter.unusedVariables false
set_option maxRecDepth 100000 in
set_option maxHeartbeats 1600000 in
theorem soRun_any (s : SR) (k0 : Nat) (hs : s.Ok k0) (es : List Int) (a : Option Addr) (cap : Nat) (w : World) (hr : Reads .u16 w a es) (hwf : ∀ n ∈ es, 0 ≤ n ∧ n < 65536) (hlen : k0 + es.length ≤ 1000000000) :
    Calls Try.prog 21 #[s.val, .slice a es.length cap] w fun e w' => e = .returned (.tuple #[(s.run es).1.val, .int .i64 (s.run es).2]) ∧ Below w.heap.size w w' := by
  have HR := Lib.hid (fun (W : World) (h : Below w.heap.size w W) => hr.later h)
  have H0 : Hid (∀ i, i < es.length → 0 ≤ es[i]?.getD 0 ∧ es[i]?.getD 0 < 65536) := Lib.hid (fun i hi => hwf _ (by simp [hi]))
  have HRUN : Hid (∀ k, k < es.length → s.run (es.take (k + 1)) = (((s.run (es.take k)).1.upd (es[k]?.getD 0)).1, (s.run (es.take k)).2 + tick ((s.run (es.take k)).1.upd (es[k]?.getD 0)).2)) := Lib.hid (fun k hk => SR.run_step s es k hk)
  have HEND : Hid (s.run (es.take es.length) = s.run es) := Lib.hid (by rw [List.take_length])
  have HST : Hid (s.run (es.take 0) = (s, 0)) := Lib.hid (by simp [SR.run])
  clear hr hwf
  generalize hRE : s.run es = RE at HEND ⊢
  clear hRE
  obtain ⟨mx, cy, ba, bd, pr, rc⟩ := s
  simp only [SR.val] at *
  have hX : At6 26 ((w.alloc (.cells #[.int .u16 mx, .int .i64 cy, .int .i64 ba, .int .i64 bd, .int .i64 pr, .int .i64 rc] 26)).alloc (.cells #[.int .u16 0, .int .i64 0, .int .i64 0, .int .i64 0, .int .i64 0, .int .i64 0] 26)) w.heap.size (.int .u16 mx) (.int .i64 cy) (.int .i64 ba) (.int .i64 bd) (.int .i64 pr) (.int .i64 rc) := (at6_new 26 w _ (.int .u16 mx) (.int .i64 cy) (.int .i64 ba) (.int .i64 bd) (.int .i64 pr) (.int .i64 rc) rfl).alloc _
  have hY : At6 26 ((w.alloc (.cells #[.int .u16 mx, .int .i64 cy, .int .i64 ba, .int .i64 bd, .int .i64 pr, .int .i64 rc] 26)).alloc (.cells #[.int .u16 0, .int .i64 0, .int .i64 0, .int .i64 0, .int .i64 0, .int .i64 0] 26)) (w.heap.size + 1) (.int .u16 0) (.int .i64 0) (.int .i64 0) (.int .i64 0) (.int .i64 0) (.int .i64 0) := at6_new 26 _ _ (.int .u16 0) (.int .i64 0) (.int .i64 0) (.int .i64 0) (.int .i64 0) (.int .i64 0) (by simp)
  have hb : Below w.heap.size w ((w.alloc (.cells #[.int .u16 mx, .int .i64 cy, .int .i64 ba, .int .i64 bd, .int .i64 pr, .int .i64 rc] 26)).alloc (.cells #[.int .u16 0, .int .i64 0, .int .i64 0, .int .i64 0, .int .i64 0, .int .i64 0] 26)) := ((Below.refl _ _).alloc (Nat.le_refl _) _).alloc (by simp) _
  go_enter Try.func21, Try.ntmps21
  go_upto_region 1 with fail
  generalize ((w.alloc (.cells #[.int .u16 mx, .int .i64 cy, .int .i64 ba, .int .i64 bd, .int .i64 pr, .int .i64 rc] 26)).alloc (.cells #[.int .u16 0, .int .i64 0, .int .i64 0, .int .i64 0, .int .i64 0, .int .i64 0] 26)) = w2 at hX hY hb ⊢
  generalize hg2 : w.heap.size + 1 = g2 at hY ⊢
  generalize hg : w.heap.size = g at hX hb hg2 ⊢
  have hne : g ≠ g2 := by omega
  have hgle : g ≤ g2 := by omega
  have HG := Lib.hid hg
  clear hg hg2
  obtain ⟨_, _, _, _, _, _⟩ := hX.frees
  obtain ⟨_, _, _, _, _, _⟩ := hX.cells
  obtain ⟨_, _, _, _, _, _⟩ := hY.frees
  obtain ⟨_, _, _, _, _, _⟩ := hY.cells
  go_wp2_with fail
  go_loopw [6, 13] (fun z i wr => ∃ (k : Nat) (t : SR) (c : Int), k ≤ es.length ∧ i = .int .i64 k ∧ z = .int .i64 c ∧ t.Ok (k0 + k) ∧ Hid ((SR.mk mx cy ba bd pr rc).run (es.take k) = (t, c)) ∧ 0 ≤ c ∧ c ≤ k ∧ At6 26 wr g (.int .u16 t.mx) (.int .i64 t.cy) (.int .i64 t.ba) (.int .i64 t.bd) (.int .i64 t.pr) (.int .i64 t.rc) ∧ At6 26 wr g2 (.int .u16 0) (.int .i64 0) (.int .i64 0) (.int .i64 0) (.int .i64 0) (.int .i64 0) ∧ Below g w wr) (fun _ i _ => es.length - (intOf i).toNat)
  case atStart => exact ⟨0, ⟨mx, cy, ba, bd, pr, rc⟩, 0, Nat.zero_le _, rfl, rfl, hs, HST, by omega, by omega, hX, hY, hb⟩
  case round =>
    obtain ⟨k, t, c, hk, rfl, rfl, ht, hrun, hc0, hc1, hXk, hYk, hbk⟩ := hrel
    clear hX hY hb
    by_cases hlt : k < es.length
    · obtain ⟨ab, off, rfl, hcell⟩ := (HR.out wr (by rw [HG.out]; exact hbk)).at hlt
      obtain ⟨n0, n1⟩ := H0.out k hlt
      have hst := HRUN.out k hlt
      rw [hrun.out] at hst
      simp only at hst
      generalize es[k]?.getD 0 = n at hcell n0 n1 hst
      have hU := SR.upd_ok ht n n0 n1
      have hC := soUpd_any t (k0 + k) ht (by omega) n n0 n1
      obtain ⟨mx1, cy1, ba1, bd1, pr1, rc1⟩ := t
      generalize hup : SR.upd ⟨mx1, cy1, ba1, bd1, pr1, rc1⟩ n = UP at hst hU hC
      obtain ⟨⟨mx2, cy2, ba2, bd2, pr2, rc2⟩, cb⟩ := UP
      simp only [SR.val] at hst hU hC hXk
      have HC := Lib.hid hC
      have HST := Lib.hid hst
      have HU := Lib.hid hU
      clear hC hst hU hup hrun
      have hgw := hXk.lt
      obtain ⟨_, _, _, _, _, _⟩ := hXk.cells
      go_wp2_with fail
      refine (HC.out _).mono ?_
      rintro e w5 ⟨rfl, hk5⟩
      have hX6 := (hXk.later hk5).alloc (.cells #[.int .u16 mx2, .int .i64 cy2, .int .i64 ba2, .int .i64 bd2, .int .i64 pr2, .int .i64 rc2] 26)
      have hY6 := (hYk.later hk5).alloc (.cells #[.int .u16 mx2, .int .i64 cy2, .int .i64 ba2, .int .i64 bd2, .int .i64 pr2, .int .i64 rc2] 26)
      have hb6 := (hbk.trans (hk5.mono (by omega))).alloc (by have := (hXk.later hk5).lt; omega) (.cells #[.int .u16 mx2, .int .i64 cy2, .int .i64 ba2, .int .i64 bd2, .int .i64 pr2, .int .i64 rc2] 26)
      have hN6 := at6_new 26 w5 _ (.int .u16 mx2) (.int .i64 cy2) (.int .i64 ba2) (.int .i64 bd2) (.int .i64 pr2) (.int .i64 rc2) rfl
      go_upto_region 6 with fail
      generalize w5.alloc (.cells #[.int .u16 mx2, .int .i64 cy2, .int .i64 ba2, .int .i64 bd2, .int .i64 pr2, .int .i64 rc2] 26) = w6 at hN6 hX6 hY6 hb6 ⊢
      generalize w5.heap.size = gn at hN6 ⊢
      clear hk5 hXk hYk hbk hgw
      obtain ⟨_, _, _, _, _, _⟩ := hN6.cells
      obtain ⟨_, _, _, _, _, _⟩ := hX6.frees
      obtain ⟨_, _, _, _, _, _⟩ := hX6.cells
      have HU' : Hid (∀ W : World, W = W) := Lib.hid (fun _ => rfl)
      clear HU'
      cases cb
      · go_upto_region 8 with fail
        go_upto_region 9 with fail
        have hX7 := at6_store hX6 (.int .u16 mx2) (.int .i64 cy2) (.int .i64 ba2) (.int .i64 bd2) (.int .i64 pr2) (.int .i64 rc2)
        have ho7 := store6_only w6 g (.int .u16 mx2) (.int .i64 cy2) (.int .i64 ba2) (.int .i64 bd2) (.int .i64 pr2) (.int .i64 rc2)
        have hY7 := hY6.only (fun e => hne e.symm) ho7
        have hb7 := hb6.trans (ho7.below (Nat.le_refl _))
        generalize ((((((w6.setCell ⟨g, 0, none⟩ (.int .u16 mx2)).setCell ⟨g, 1, none⟩ (.int .i64 cy2)).setCell ⟨g, 2, none⟩ (.int .i64 ba2)).setCell ⟨g, 3, none⟩ (.int .i64 bd2)).setCell ⟨g, 4, none⟩ (.int .i64 pr2)).setCell ⟨g, 5, none⟩ (.int .i64 rc2)) = w7 at hX7 hY7 hb7 ⊢
        clear ho7 hX6 hY6 hb6 hN6
        go_wp2_with fail
        go_roundw
        case rel => exact ⟨k + 1, ⟨mx2, cy2, ba2, bd2, pr2, rc2⟩, c, by omega, by go_num, rfl, HU.out, Lib.hid (HST.out.trans (by simp [tick])), by omega, by omega, hX7, hY7, hb7⟩
        case measure => simp [intOf]; omega
      · go_upto_region 8 with fail
        go_upto_region 9 with fail
        have hX7 := at6_store hX6 (.int .u16 mx2) (.int .i64 cy2) (.int .i64 ba2) (.int .i64 bd2) (.int .i64 pr2) (.int .i64 rc2)
        have ho7 := store6_only w6 g (.int .u16 mx2) (.int .i64 cy2) (.int .i64 ba2) (.int .i64 bd2) (.int .i64 pr2) (.int .i64 rc2)
        have hY7 := hY6.only (fun e => hne e.symm) ho7
        have hb7 := hb6.trans (ho7.below (Nat.le_refl _))
        generalize ((((((w6.setCell ⟨g, 0, none⟩ (.int .u16 mx2)).setCell ⟨g, 1, none⟩ (.int .i64 cy2)).setCell ⟨g, 2, none⟩ (.int .i64 ba2)).setCell ⟨g, 3, none⟩ (.int .i64 bd2)).setCell ⟨g, 4, none⟩ (.int .i64 pr2)).setCell ⟨g, 5, none⟩ (.int .i64 rc2)) = w7 at hX7 hY7 hb7 ⊢
        clear ho7 hX6 hY6 hb6 hN6
        go_wp2_with fail
        go_roundw
        case rel => exact ⟨k + 1, ⟨mx2, cy2, ba2, bd2, pr2, rc2⟩, c + 1, by omega, by go_num, rfl, HU.out, Lib.hid (HST.out.trans (by simp [tick])), by omega, by omega, hX7, hY7, hb7⟩
        case measure => simp [intOf]; omega
    · obtain rfl : k = es.length := by omega
      have hRE := HEND.out
      rw [hrun.out] at hRE
      subst hRE
      obtain ⟨mx2, cy2, ba2, bd2, pr2, rc2⟩ := t
      simp only at hXk ht
      obtain ⟨_, _, _, _, _, _⟩ := hXk.cells
      obtain ⟨_, _, _, _, _, _⟩ := hYk.frees
      obtain ⟨_, _, _, _, _, _⟩ := hYk.cells
      go_wp2_with fail
      have hZ := at6_store hYk (.int .u16 mx2) (.int .i64 cy2) (.int .i64 ba2) (.int .i64 bd2) (.int .i64 pr2) (.int .i64 rc2)
      have hbz := hbk.trans ((store6_only wr g2 (.int .u16 mx2) (.int .i64 cy2) (.int .i64 ba2) (.int .i64 bd2) (.int .i64 pr2) (.int .i64 rc2)).below (by omega))
      obtain ⟨d0, d1, d2, d3, d4, d5⟩ := hZ.cells
      refine bodyPost_ret (v := .tuple #[.agg #[.int .u16 mx2, .int .i64 cy2, .int .i64 ba2, .int .i64 bd2, .int .i64 pr2, .int .i64 rc2], .int .i64 c]) (by simp [results, Try.results21, go_sem, d0, d1, d2, d3, d4, d5]) rfl ⟨rfl, by rw [HG.out]; exact hbz⟩
end Go.Proofs.Ytncpepbpphpkoaa
