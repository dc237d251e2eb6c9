/- NetPlays: the walk. -/
import Derived.Test.YtbmbomojnljccaaNePlM
import Derived.Test.YtbmbomojnljccaaOrdM
namespace Go.Proofs.Ytbmbomojnljccaa
open Go.RowKit Go.Maps
set_option linter.unusedVariables false
set_option linter.unusedSimpArgs false
theorem AtQ.cells4 {T : TypeId} {W : World} {g : Nat} {c0 c1 c2 c3 : Value} (h : AtQ T W g #[c0, c1, c2, c3]) : W.cell? ⟨g, 0, none⟩ = some c0 ∧ W.cell? ⟨g, 1, none⟩ = some c1 ∧ W.cell? ⟨g, 2, none⟩ = some c2 ∧ W.cell? ⟨g, 3, none⟩ = some c3 := by
  have f := fun i => h.cell i
  exact ⟨by simpa using f 0, by simpa using f 1, by simpa using f 2, by simpa using f 3⟩
namespace netPlays
set_option maxRecDepth 100000 in
set_option maxHeartbeats 12800000 in
theorem walk (a0 a1 : Int) (p1 : Option Addr) (len1 cap1 : Nat) (p2 : Option Addr) (len2 cap2 : Nat) (w : World) (w1 : Recs neActQ w p1 len1) (hl1 : len1 ≤ 9223372036854775807) (w2 : Recs neActQ w p2 len2) (hl2 : len2 ≤ 9223372036854775807) :
    Calls Try.prog 3 #[.agg #[.int .i64 a0, .int .i64 a1, .slice p1 len1 cap1, .slice p2 len2 cap2]] w fun e w' => e = .returned (.bool true) ∧ Below w.heap.size w w' := by
  have HACT := Lib.hid (fun (k : Nat) (hk : k < len1) (W : World) (hb : Below w.heap.size w W) => neActQ_at w1 hb hk)
  have HACT2 := Lib.hid (fun (k : Nat) (hk : k < len2) (W : World) (hb : Below w.heap.size w W) => neActQ_at w2 hb hk)
  clear w1 w2
  have hP := atQ_new 24 w w.heap.size #[.int .i64 a0, .int .i64 a1, .slice p1 len1 cap1, .slice p2 len2 cap2] rfl
  have hb : Below w.heap.size w (w.alloc (.cells #[.int .i64 a0, .int .i64 a1, .slice p1 len1 cap1, .slice p2 len2 cap2] 24)) := (Below.refl _ _).alloc (Nat.le_refl _) _
  go_enter Try.func3, Try.ntmps3
  go_upto_region 1 with fail
  generalize (w.alloc (.cells #[.int .i64 a0, .int .i64 a1, .slice p1 len1 cap1, .slice p2 len2 cap2] 24)) = w0 at *
  generalize hg : w.heap.size = g at *
  have HG := Lib.hid hg
  clear hg
  have hgs : g ≤ w0.heap.size := Nat.le_of_lt hP.lt
  go_wp2_with fail
  refine (neAwake_any w0).mono ?_
  rintro e wa ⟨rfl, hba⟩
  have hPa := hP.later hba
  have hb2 := hb.trans (hba.mono hgs)
  have hgs2 : g ≤ wa.heap.size := Nat.le_of_lt hPa.lt
  clear hP hb hba hgs
  go_upto_region 3 with fail
  obtain ⟨m0, m1, m2, m3⟩ := hPa.cells4
  go_quiet (fail)
  have hb3 := below_drewN hb2 nq
  have hgs3 : g ≤ (wa.drewN nq).heap.size := hgs2
  generalize wa.drewN nq = wb at *
  clear hb2 hPa m0 m1 m2 m3
  go_wp2_with fail
  refine (neNew_any a0 a1 wb).mono ?_
  rintro e wc ⟨gn, rfl, hIc, hkc⟩
  go_wp2_with fail
  refine (refNeNew_any a0 a1 wc).mono ?_
  rintro e wd ⟨rfl, hkd⟩
  unfold neRv
  have hId := hIc.later hkd
  have hgc : g ≤ wc.heap.size := Nat.le_trans hgs3 hkc.size
  have hgd : g ≤ wd.heap.size := Nat.le_trans hgc hkd.size
  have hb4 := (hb3.trans (hkc.mono hgs3)).trans (hkd.mono hgc)
  have hal : Below wd.heap.size wd (wd.alloc (.cells #[.int .i64 (am 1 a0 1024), .int .i64 (am 1 a1 16777216), .slice none 0 0, .int .i64 0, .int .i64 0, .int .i64 0, .int .i64 0, .int .i64 0, .int .i64 0] 34)) := (Below.refl _ _).alloc (Nat.le_refl _) _
  have hX := atQ_new 34 wd wd.heap.size #[.int .i64 (am 1 a0 1024), .int .i64 (am 1 a1 16777216), .slice none 0 0, .int .i64 0, .int .i64 0, .int .i64 0, .int .i64 0, .int .i64 0, .int .i64 0] rfl
  have hB : NeBoth (wd.alloc (.cells #[.int .i64 (am 1 a0 1024), .int .i64 (am 1 a1 16777216), .slice none 0 0, .int .i64 0, .int .i64 0, .int .i64 0, .int .i64 0, .int .i64 0, .int .i64 0] 34)) a0 a1 wb.heap.size gn wd.heap.size 0 (neNew a0 a1) (.slice none 0 0) [] 0 := ⟨hId.later hal, neEq_new a0 a1, ownE_nil _ _ _ _, hX, rfl, rfl, Nat.le_refl _, Nat.le_refl _, fun _ => ⟨Int.le_refl _, Int.le_refl _⟩⟩
  have hb5 := hb4.trans (hal.mono hgd)
  go_upto_region 5 with fail
  generalize (wd.alloc (.cells #[.int .i64 (am 1 a0 1024), .int .i64 (am 1 a1 16777216), .slice none 0 0, .int .i64 0, .int .i64 0, .int .i64 0, .int .i64 0, .int .i64 0, .int .i64 0] 34)) = we at *
  generalize neNew a0 a1 = x0 at hB
  generalize wb.heap.size = B at *
  generalize wd.heap.size = gx at *
  clear hIc hkc hId hkd hgc hb4 hal hX hb3
  go_wp2_with fail
  go_loopw [9, 10] (fun s9 s10 wr => ∃ (k n : Nat) (x : NE) (v : Value) (l : List OD), k ≤ len1 ∧ k ≤ 30 ∧ s10 = .int .i64 k ∧ Hid (NeBoth wr a0 a1 B gn gx n x v l k) ∧ Hid (Below g w wr)) (fun _ s10 _ => 30 - (intOf s10).toNat)
  case atStart => exact ⟨0, 0, x0, .slice none 0 0, [], Nat.zero_le _, by omega, rfl, Lib.hid hB, Lib.hid hb5⟩
  case round =>
    obtain ⟨k, n, x, v, l, hk, hk30, rfl, HB, HW⟩ := hrel
    clear hB hb5
    by_cases hlt : k < len1 ∧ k < 30
    · obtain ⟨hlt, hlt30⟩ := hlt
      obtain ⟨ab, off, rfl, hab, kd, wy, pt, ix, bt, mk, d, hwf, hmk, wds, hact⟩ := HACT.out k hlt wr HW.out
      have hdk : decide ((k : Int) < (len1 : Int)) = true := decide_eq_true (by omega)
      have hdk2 : decide ((k : Int) < 30) = true := decide_eq_true (by omega)
      have hki : (k : Int) < len1 := by omega
      go_upto_region 11 with fail
      have hBd := HB.out.drew
      have hSd : wr.drew.cell? ⟨ab, off + k * 7, none⟩ = some (.int .i64 kd) ∧ wr.drew.cell? ⟨ab, off + k * 7 + 1, none⟩ = some (.int .i64 wy) ∧ wr.drew.cell? ⟨ab, off + k * 7 + 2, none⟩ = some (.int .i64 pt) ∧ wr.drew.cell? ⟨ab, off + k * 7 + 3, none⟩ = some (.int .i64 ix) ∧ wr.drew.cell? ⟨ab, off + k * 7 + 4, none⟩ = some (.int .i64 bt) ∧ wr.drew.cell? ⟨ab, off + k * 7 + 5, none⟩ = some (.int .u32 (mk : Int)) ∧ wr.drew.cell? ⟨ab, off + k * 7 + 6, none⟩ = some (.string d) := hact
      refine wp_region_noPanic ?_
      refine ordM_begin (fun W : World => W.cell? ⟨ab, off + k * 7, none⟩ = some (.int .i64 kd) ∧ W.cell? ⟨ab, off + k * 7 + 1, none⟩ = some (.int .i64 wy) ∧ W.cell? ⟨ab, off + k * 7 + 2, none⟩ = some (.int .i64 pt) ∧ W.cell? ⟨ab, off + k * 7 + 3, none⟩ = some (.int .i64 ix) ∧ W.cell? ⟨ab, off + k * 7 + 4, none⟩ = some (.int .i64 bt) ∧ W.cell? ⟨ab, off + k * 7 + 5, none⟩ = some (.int .u32 (mk : Int)) ∧ W.cell? ⟨ab, off + k * 7 + 6, none⟩ = some (.string d)) (fun i => false) (by kernel_rfl) hSd ?_
      have hWd := HW.out.drew
      generalize wr.drew = wd at *
      have hB9 : NeBoth wd a0 a1 _ _ _ _ _ _ _ _ := hBd
      obtain ⟨_, _, _, _, _, _, _, _, _⟩ := AtQ.cells9 hBd.at9
      refine ordM_take 0 ?vq1 rfl (by kernel_rfl) (by kernel_rfl) (by kernel_rfl) (by kernel_rfl) (fun _ _ _ h => h) (by rfl) ?hq1 (by assumption) ?rq1
      case hq1 => (intro W hSw; (try dsimp only at hSw); go_simp <;> with_reducible rfl)
      (try simp only [Act.put, List.setIfInBounds_toArray, List.set_cons_zero, List.set_cons_succ])
      refine ordM_take 2 ?vq2 rfl (by kernel_rfl) (by kernel_rfl) (by kernel_rfl) (by kernel_rfl) (fun _ _ _ h => h) (by rfl) ?hq2 (by assumption) ?rq2
      case hq2 => (intro W hSw; (try dsimp only at hSw); go_simp <;> with_reducible rfl)
      (try simp only [Act.put, List.setIfInBounds_toArray, List.set_cons_zero, List.set_cons_succ])
      refine ordM_take 3 ?vq3 rfl (by kernel_rfl) (by kernel_rfl) (by kernel_rfl) (by kernel_rfl) (fun _ _ _ h => h) (by rfl) ?hq3 (by assumption) ?rq3
      case hq3 => (intro W hSw; (try dsimp only at hSw); go_simp <;> with_reducible rfl)
      (try simp only [Act.put, List.setIfInBounds_toArray, List.set_cons_zero, List.set_cons_succ])
      refine ordM_take 4 ?vq4 rfl (by kernel_rfl) (by kernel_rfl) (by kernel_rfl) (by kernel_rfl) (fun _ _ _ h => h) (by rfl) ?hq4 (by assumption) ?rq4
      case hq4 => (intro W hSw; (try dsimp only at hSw); go_simp <;> with_reducible rfl)
      (try simp only [Act.put, List.setIfInBounds_toArray, List.set_cons_zero, List.set_cons_succ])
      refine ordM_take 5 ?vq5 rfl (by kernel_rfl) (by kernel_rfl) (by kernel_rfl) (by kernel_rfl) (fun _ _ _ h => h) (by rfl) ?hq5 (by assumption) ?rq5
      case hq5 => (intro W hSw; (try dsimp only at hSw); go_simp <;> with_reducible rfl)
      (try simp only [Act.put, List.setIfInBounds_toArray, List.set_cons_zero, List.set_cons_succ])
      refine ordM_ready [1] (by kernel_rfl) (by simp) ?_
      refine AllReadyM.cons rfl (fun K hK => ?_) AllReadyM.nil
      go_simp
      refine hK.out _ _ (fun _ => hSd) ?_
      clear hK K
      (try simp only [Act.put, List.setIfInBounds_toArray, List.set_cons_zero, List.set_cons_succ])
      refine ordM_ready [6] (by kernel_rfl) (by simp) ?_
      refine AllReadyM.cons rfl (fun K hK => ?_) AllReadyM.nil
      go_simp
      go_at_call 9
      refine (hBd.do_any (by omega) kd wy pt ix bt mk hmk d hwf wds).mono ?_
      rintro e w5 ⟨x5, v5, l5, rfl, hD⟩
      obtain ⟨va, vc, rfl⟩ := hD.row.formG
      unfold neBox
      (try go_wp2_with fail)
      have hA5 := hBd.at9.nkeep hBd.nin hD.keep (by decide) (by decide)
      have hk5 := hD.keep.below hBd.nin
      have hS5 : w5.cell? ⟨ab, off + k * 7, none⟩ = some (.int .i64 kd) ∧ w5.cell? ⟨ab, off + k * 7 + 1, none⟩ = some (.int .i64 wy) ∧ w5.cell? ⟨ab, off + k * 7 + 2, none⟩ = some (.int .i64 pt) ∧ w5.cell? ⟨ab, off + k * 7 + 3, none⟩ = some (.int .i64 ix) ∧ w5.cell? ⟨ab, off + k * 7 + 4, none⟩ = some (.int .i64 bt) ∧ w5.cell? ⟨ab, off + k * 7 + 5, none⟩ = some (.int .u32 (mk : Int)) ∧ w5.cell? ⟨ab, off + k * 7 + 6, none⟩ = some (.string d) := cells7_keep hSd (hk5.block ab (by omega))
      refine hK.out _ _ (fun _ => hS5) ?_
      clear hK K
      (try simp only [Act.put, List.setIfInBounds_toArray, List.set_cons_zero, List.set_cons_succ])
      refine ordM_take 7 ?vq6 rfl (by kernel_rfl) (by kernel_rfl) (by kernel_rfl) (by kernel_rfl) (fun _ _ _ h => h) (by rfl) ?hq6 (by assumption) ?rq6
      case hq6 => (intro W hSw; (try dsimp only at hSw); go_simp <;> with_reducible rfl)
      (try simp only [Act.put, List.setIfInBounds_toArray, List.set_cons_zero, List.set_cons_succ])
      refine ordM_take 8 ?vq7 rfl (by kernel_rfl) (by kernel_rfl) (by kernel_rfl) (by kernel_rfl) (fun _ _ _ h => h) (by rfl) ?hq7 (by assumption) ?rq7
      case hq7 => (intro W hSw; (try dsimp only at hSw); go_simp <;> with_reducible rfl)
      (try simp only [Act.put, List.setIfInBounds_toArray, List.set_cons_zero, List.set_cons_succ])
      refine ordM_take 9 ?vq8 rfl (by kernel_rfl) (by kernel_rfl) (by kernel_rfl) (by kernel_rfl) (fun _ _ _ h => h) (by rfl) ?hq8 (by assumption) ?rq8
      case hq8 => (intro W hSw; (try dsimp only at hSw); go_simp <;> with_reducible rfl)
      (try simp only [Act.put, List.setIfInBounds_toArray, List.set_cons_zero, List.set_cons_succ])
      have ho := put9_only w5 gx (.int .i64 (am 1 a0 1024)) (.int .i64 (am 1 a1 16777216)) (.slice va l5.length vc) (.int .i64 (x5.c 0)) (.int .i64 (x5.c 1)) (.int .i64 (x5.c 2)) (.int .i64 (x5.c 3)) (.int .i64 (x5.c 4)) (.int .i64 (x5.c 5))
      have hZ := atQ9_put hA5 (.int .i64 (am 1 a0 1024)) (.int .i64 (am 1 a1 16777216)) (.slice va l5.length vc) (.int .i64 (x5.c 0)) (.int .i64 (x5.c 1)) (.int .i64 (x5.c 2)) (.int .i64 (x5.c 3)) (.int .i64 (x5.c 4)) (.int .i64 (x5.c 5))
      have hS8 : (((((((((w5.setCell ⟨gx, 0, none⟩ (.int .i64 (am 1 a0 1024))).setCell ⟨gx, 1, none⟩ (.int .i64 (am 1 a1 16777216))).setCell ⟨gx, 2, none⟩ (.slice va l5.length vc)).setCell ⟨gx, 3, none⟩ (.int .i64 (x5.c 0))).setCell ⟨gx, 4, none⟩ (.int .i64 (x5.c 1))).setCell ⟨gx, 5, none⟩ (.int .i64 (x5.c 2))).setCell ⟨gx, 6, none⟩ (.int .i64 (x5.c 3))).setCell ⟨gx, 7, none⟩ (.int .i64 (x5.c 4))).setCell ⟨gx, 8, none⟩ (.int .i64 (x5.c 5))).cell? ⟨ab, off + k * 7, none⟩ = some (.int .i64 kd) ∧ (((((((((w5.setCell ⟨gx, 0, none⟩ (.int .i64 (am 1 a0 1024))).setCell ⟨gx, 1, none⟩ (.int .i64 (am 1 a1 16777216))).setCell ⟨gx, 2, none⟩ (.slice va l5.length vc)).setCell ⟨gx, 3, none⟩ (.int .i64 (x5.c 0))).setCell ⟨gx, 4, none⟩ (.int .i64 (x5.c 1))).setCell ⟨gx, 5, none⟩ (.int .i64 (x5.c 2))).setCell ⟨gx, 6, none⟩ (.int .i64 (x5.c 3))).setCell ⟨gx, 7, none⟩ (.int .i64 (x5.c 4))).setCell ⟨gx, 8, none⟩ (.int .i64 (x5.c 5))).cell? ⟨ab, off + k * 7 + 1, none⟩ = some (.int .i64 wy) ∧ (((((((((w5.setCell ⟨gx, 0, none⟩ (.int .i64 (am 1 a0 1024))).setCell ⟨gx, 1, none⟩ (.int .i64 (am 1 a1 16777216))).setCell ⟨gx, 2, none⟩ (.slice va l5.length vc)).setCell ⟨gx, 3, none⟩ (.int .i64 (x5.c 0))).setCell ⟨gx, 4, none⟩ (.int .i64 (x5.c 1))).setCell ⟨gx, 5, none⟩ (.int .i64 (x5.c 2))).setCell ⟨gx, 6, none⟩ (.int .i64 (x5.c 3))).setCell ⟨gx, 7, none⟩ (.int .i64 (x5.c 4))).setCell ⟨gx, 8, none⟩ (.int .i64 (x5.c 5))).cell? ⟨ab, off + k * 7 + 2, none⟩ = some (.int .i64 pt) ∧ (((((((((w5.setCell ⟨gx, 0, none⟩ (.int .i64 (am 1 a0 1024))).setCell ⟨gx, 1, none⟩ (.int .i64 (am 1 a1 16777216))).setCell ⟨gx, 2, none⟩ (.slice va l5.length vc)).setCell ⟨gx, 3, none⟩ (.int .i64 (x5.c 0))).setCell ⟨gx, 4, none⟩ (.int .i64 (x5.c 1))).setCell ⟨gx, 5, none⟩ (.int .i64 (x5.c 2))).setCell ⟨gx, 6, none⟩ (.int .i64 (x5.c 3))).setCell ⟨gx, 7, none⟩ (.int .i64 (x5.c 4))).setCell ⟨gx, 8, none⟩ (.int .i64 (x5.c 5))).cell? ⟨ab, off + k * 7 + 3, none⟩ = some (.int .i64 ix) ∧ (((((((((w5.setCell ⟨gx, 0, none⟩ (.int .i64 (am 1 a0 1024))).setCell ⟨gx, 1, none⟩ (.int .i64 (am 1 a1 16777216))).setCell ⟨gx, 2, none⟩ (.slice va l5.length vc)).setCell ⟨gx, 3, none⟩ (.int .i64 (x5.c 0))).setCell ⟨gx, 4, none⟩ (.int .i64 (x5.c 1))).setCell ⟨gx, 5, none⟩ (.int .i64 (x5.c 2))).setCell ⟨gx, 6, none⟩ (.int .i64 (x5.c 3))).setCell ⟨gx, 7, none⟩ (.int .i64 (x5.c 4))).setCell ⟨gx, 8, none⟩ (.int .i64 (x5.c 5))).cell? ⟨ab, off + k * 7 + 4, none⟩ = some (.int .i64 bt) ∧ (((((((((w5.setCell ⟨gx, 0, none⟩ (.int .i64 (am 1 a0 1024))).setCell ⟨gx, 1, none⟩ (.int .i64 (am 1 a1 16777216))).setCell ⟨gx, 2, none⟩ (.slice va l5.length vc)).setCell ⟨gx, 3, none⟩ (.int .i64 (x5.c 0))).setCell ⟨gx, 4, none⟩ (.int .i64 (x5.c 1))).setCell ⟨gx, 5, none⟩ (.int .i64 (x5.c 2))).setCell ⟨gx, 6, none⟩ (.int .i64 (x5.c 3))).setCell ⟨gx, 7, none⟩ (.int .i64 (x5.c 4))).setCell ⟨gx, 8, none⟩ (.int .i64 (x5.c 5))).cell? ⟨ab, off + k * 7 + 5, none⟩ = some (.int .u32 (mk : Int)) ∧ (((((((((w5.setCell ⟨gx, 0, none⟩ (.int .i64 (am 1 a0 1024))).setCell ⟨gx, 1, none⟩ (.int .i64 (am 1 a1 16777216))).setCell ⟨gx, 2, none⟩ (.slice va l5.length vc)).setCell ⟨gx, 3, none⟩ (.int .i64 (x5.c 0))).setCell ⟨gx, 4, none⟩ (.int .i64 (x5.c 1))).setCell ⟨gx, 5, none⟩ (.int .i64 (x5.c 2))).setCell ⟨gx, 6, none⟩ (.int .i64 (x5.c 3))).setCell ⟨gx, 7, none⟩ (.int .i64 (x5.c 4))).setCell ⟨gx, 8, none⟩ (.int .i64 (x5.c 5))).cell? ⟨ab, off + k * 7 + 6, none⟩ = some (.string d) := cells7_keep hS5 (ho.block ab (by omega))
      obtain ⟨_, _, _, _, _, _, _, _, _⟩ := AtQ.cells9 hA5
      obtain ⟨_, _, _, _, _, _, _, _, _⟩ := AtQ.frees9 hA5
      refine ordM_ready [10] (by kernel_rfl) (by simp) ?_
      refine AllReadyM.cons rfl (fun K hK => ?_) AllReadyM.nil
      go_simp
      refine hK.out _ _ (fun _ => hS8) ?_
      clear hK K
      (try simp only [Act.put, List.setIfInBounds_toArray, List.set_cons_zero, List.set_cons_succ])
      refine ordM_take 11 ?vq9 rfl (by kernel_rfl) (by kernel_rfl) (by kernel_rfl) (by kernel_rfl) (fun _ _ _ h => h) (by rfl) ?hq9 (by assumption) ?rq9
      case hq9 => (intro W hSw; (try dsimp only at hSw); go_simp <;> with_reducible rfl)
      (try simp only [Act.put, List.setIfInBounds_toArray, List.set_cons_zero, List.set_cons_succ])
      refine ordM_done (by kernel_rfl) ?_ _
      refine NoPanic.normal ?_
      have hB8 := hBd.next hD ho hZ
      have hW8 := (hWd.trans (hk5.mono (by omega))).trans (ho.below (by omega))
      generalize (((((((((w5.setCell ⟨gx, 0, none⟩ (.int .i64 (am 1 a0 1024))).setCell ⟨gx, 1, none⟩ (.int .i64 (am 1 a1 16777216))).setCell ⟨gx, 2, none⟩ (.slice va l5.length vc)).setCell ⟨gx, 3, none⟩ (.int .i64 (x5.c 0))).setCell ⟨gx, 4, none⟩ (.int .i64 (x5.c 1))).setCell ⟨gx, 5, none⟩ (.int .i64 (x5.c 2))).setCell ⟨gx, 6, none⟩ (.int .i64 (x5.c 3))).setCell ⟨gx, 7, none⟩ (.int .i64 (x5.c 4))).setCell ⟨gx, 8, none⟩ (.int .i64 (x5.c 5))) = w8 at *
      clear hS8 hS5 hSd hact hA5 hk5 hD hZ ho hBd hWd hB9
      obtain ⟨_, _, _, _, _, _, _, _, _⟩ := AtQ.cells9 hB8.at9
      have HISX := Lib.hid (hB8.is_any (by omega))
      unfold neBox at HISX
      go_wp2_with fail
      refine HISX.out.mono ?_
      rintro e w9 ⟨rfl, hb9⟩
      go_wp2_with fail
      go_roundw
      case rel => exact ⟨k + 1, n + 1, x5, _, l5, by omega, by omega, by go_num, Lib.hid (hB8.later hb9), Lib.hid (hW8.trans (hb9.mono (by have := hB8.at9.lt; omega)))⟩
      case measure => simp [intOf]; omega
    · have hBk := HB.out
      have hWk := HW.out
      have hk60 : k ≤ 60 := by omega
      obtain ⟨va, vc, rfl⟩ := hBk.row.formG
      by_cases hq : k < len1
      · have hd1 : decide ((k : Int) < (len1 : Int)) = true := decide_eq_true (by omega)
        have hd2 : decide ((k : Int) < 30) = false := decide_eq_false (by omega)
        clear HB HW hlt
        go_upto_region 14 with fail
        have hBd := hBk.drew
        have hWd := hWk.drew
        have hSd : wr.drew.cell? ⟨gx, 0, none⟩ = some (.int .i64 (am 1 a0 1024)) ∧ wr.drew.cell? ⟨gx, 1, none⟩ = some (.int .i64 (am 1 a1 16777216)) ∧ wr.drew.cell? ⟨gx, 2, none⟩ = some (.slice va l.length vc) ∧ wr.drew.cell? ⟨gx, 3, none⟩ = some (.int .i64 (x.c 0)) ∧ wr.drew.cell? ⟨gx, 4, none⟩ = some (.int .i64 (x.c 1)) ∧ wr.drew.cell? ⟨gx, 5, none⟩ = some (.int .i64 (x.c 2)) ∧ wr.drew.cell? ⟨gx, 6, none⟩ = some (.int .i64 (x.c 3)) ∧ wr.drew.cell? ⟨gx, 7, none⟩ = some (.int .i64 (x.c 4)) ∧ wr.drew.cell? ⟨gx, 8, none⟩ = some (.int .i64 (x.c 5)) := AtQ.cells9 hBd.at9
        refine wp_region_noPanic ?_
        refine ordM_begin (fun W : World => W.cell? ⟨gx, 0, none⟩ = some (.int .i64 (am 1 a0 1024)) ∧ W.cell? ⟨gx, 1, none⟩ = some (.int .i64 (am 1 a1 16777216)) ∧ W.cell? ⟨gx, 2, none⟩ = some (.slice va l.length vc) ∧ W.cell? ⟨gx, 3, none⟩ = some (.int .i64 (x.c 0)) ∧ W.cell? ⟨gx, 4, none⟩ = some (.int .i64 (x.c 1)) ∧ W.cell? ⟨gx, 5, none⟩ = some (.int .i64 (x.c 2)) ∧ W.cell? ⟨gx, 6, none⟩ = some (.int .i64 (x.c 3)) ∧ W.cell? ⟨gx, 7, none⟩ = some (.int .i64 (x.c 4)) ∧ W.cell? ⟨gx, 8, none⟩ = some (.int .i64 (x.c 5))) (fun i => false) (by kernel_rfl) hSd ?_
        have hgxg : g ≤ gx := hgd
        generalize wr.drew = wd at *
        clear hBk hWk
        refine ordM_take 0 ?vq10 rfl (by kernel_rfl) (by kernel_rfl) (by kernel_rfl) (by kernel_rfl) (fun _ _ _ h => h) (by rfl) ?hq10 (by assumption) ?rq10
        case hq10 => (intro W hSw; (try dsimp only at hSw); go_simp <;> with_reducible rfl)
        (try simp only [Act.put, List.setIfInBounds_toArray, List.set_cons_zero, List.set_cons_succ])
        refine ordM_take 2 ?vq11 rfl (by kernel_rfl) (by kernel_rfl) (by kernel_rfl) (by kernel_rfl) (fun _ _ _ h => h) (by rfl) ?hq11 (by assumption) ?rq11
        case hq11 => (intro W hSw; (try dsimp only at hSw); go_simp <;> with_reducible rfl)
        (try simp only [Act.put, List.setIfInBounds_toArray, List.set_cons_zero, List.set_cons_succ])
        refine ordM_ready [1, 3] (by kernel_rfl) (by simp) ?_
        refine AllReadyM.cons rfl (fun K hK => ?_) (AllReadyM.cons rfl (fun K hK => ?_) AllReadyM.nil)
        · go_simp
          go_at_call 11
          refine (neClone_any hBd.nin (by have := hBd.nk; omega)).mono ?_
          rintro e w5 ⟨gc, nc, VV, mpc, rfl, hIc, hnc, hb5⟩
          (try go_wp2_with fail)
          have hS5 : w5.cell? ⟨gx, 0, none⟩ = some (.int .i64 (am 1 a0 1024)) ∧ w5.cell? ⟨gx, 1, none⟩ = some (.int .i64 (am 1 a1 16777216)) ∧ w5.cell? ⟨gx, 2, none⟩ = some (.slice va l.length vc) ∧ w5.cell? ⟨gx, 3, none⟩ = some (.int .i64 (x.c 0)) ∧ w5.cell? ⟨gx, 4, none⟩ = some (.int .i64 (x.c 1)) ∧ w5.cell? ⟨gx, 5, none⟩ = some (.int .i64 (x.c 2)) ∧ w5.cell? ⟨gx, 6, none⟩ = some (.int .i64 (x.c 3)) ∧ w5.cell? ⟨gx, 7, none⟩ = some (.int .i64 (x.c 4)) ∧ w5.cell? ⟨gx, 8, none⟩ = some (.int .i64 (x.c 5)) := AtQ.cells9 (hBd.at9.later hb5)
          refine hK.out _ _ (fun _ => hS5) ?_
          clear hK K
          (try simp only [Act.put, List.setIfInBounds_toArray, List.set_cons_zero, List.set_cons_succ])
          refine ordM_ready [3] (by kernel_rfl) (by simp) ?_
          refine AllReadyM.cons rfl (fun K hK => ?_) AllReadyM.nil
          go_simp
          have hal : Below w5.heap.size w5 (w5.alloc (.cells #[.int .i64 0, .int .i64 0, .slice none 0 0, .int .i64 0, .int .i64 0, .int .i64 0, .int .i64 0, .int .i64 0, .int .i64 0] 34)) := (Below.refl _ _).alloc (Nat.le_refl _) _
          have hb6 := hb5.trans (hal.mono hb5.size)
          have hS6 : (w5.alloc (.cells #[.int .i64 0, .int .i64 0, .slice none 0 0, .int .i64 0, .int .i64 0, .int .i64 0, .int .i64 0, .int .i64 0, .int .i64 0] 34)).cell? ⟨gx, 0, none⟩ = some (.int .i64 (am 1 a0 1024)) ∧ (w5.alloc (.cells #[.int .i64 0, .int .i64 0, .slice none 0 0, .int .i64 0, .int .i64 0, .int .i64 0, .int .i64 0, .int .i64 0, .int .i64 0] 34)).cell? ⟨gx, 1, none⟩ = some (.int .i64 (am 1 a1 16777216)) ∧ (w5.alloc (.cells #[.int .i64 0, .int .i64 0, .slice none 0 0, .int .i64 0, .int .i64 0, .int .i64 0, .int .i64 0, .int .i64 0, .int .i64 0] 34)).cell? ⟨gx, 2, none⟩ = some (.slice va l.length vc) ∧ (w5.alloc (.cells #[.int .i64 0, .int .i64 0, .slice none 0 0, .int .i64 0, .int .i64 0, .int .i64 0, .int .i64 0, .int .i64 0, .int .i64 0] 34)).cell? ⟨gx, 3, none⟩ = some (.int .i64 (x.c 0)) ∧ (w5.alloc (.cells #[.int .i64 0, .int .i64 0, .slice none 0 0, .int .i64 0, .int .i64 0, .int .i64 0, .int .i64 0, .int .i64 0, .int .i64 0] 34)).cell? ⟨gx, 4, none⟩ = some (.int .i64 (x.c 1)) ∧ (w5.alloc (.cells #[.int .i64 0, .int .i64 0, .slice none 0 0, .int .i64 0, .int .i64 0, .int .i64 0, .int .i64 0, .int .i64 0, .int .i64 0] 34)).cell? ⟨gx, 5, none⟩ = some (.int .i64 (x.c 2)) ∧ (w5.alloc (.cells #[.int .i64 0, .int .i64 0, .slice none 0 0, .int .i64 0, .int .i64 0, .int .i64 0, .int .i64 0, .int .i64 0, .int .i64 0] 34)).cell? ⟨gx, 6, none⟩ = some (.int .i64 (x.c 3)) ∧ (w5.alloc (.cells #[.int .i64 0, .int .i64 0, .slice none 0 0, .int .i64 0, .int .i64 0, .int .i64 0, .int .i64 0, .int .i64 0, .int .i64 0] 34)).cell? ⟨gx, 7, none⟩ = some (.int .i64 (x.c 4)) ∧ (w5.alloc (.cells #[.int .i64 0, .int .i64 0, .slice none 0 0, .int .i64 0, .int .i64 0, .int .i64 0, .int .i64 0, .int .i64 0, .int .i64 0] 34)).cell? ⟨gx, 8, none⟩ = some (.int .i64 (x.c 5)) := AtQ.cells9 (hBd.at9.later hb6)
          refine hK.out _ _ (fun _ => hS6) ?_
          clear hK K
          (try simp only [Act.put, List.setIfInBounds_toArray, List.set_cons_zero, List.set_cons_succ])
          have hY := atQ_new 34 w5 w5.heap.size #[.int .i64 0, .int .i64 0, .slice none 0 0, .int .i64 0, .int .i64 0, .int .i64 0, .int .i64 0, .int .i64 0, .int .i64 0] rfl
          have hIc6 := hIc.later hal
          have hsz6 : wd.heap.size ≤ w5.heap.size := hb5.size
          obtain ⟨B2, hB2⟩ : ∃ z, wd.heap.size = z := ⟨_, rfl⟩
          have hfar : ∀ q, NFoot gn x q → q < B2 := fun q hq => by have := (hBd.nin.foot_lt hq).2; omega
          generalize (w5.alloc (.cells #[.int .i64 0, .int .i64 0, .slice none 0 0, .int .i64 0, .int .i64 0, .int .i64 0, .int .i64 0, .int .i64 0, .int .i64 0] 34)) = w6 at *
          generalize w5.heap.size = gy at *
          rw [hB2] at hIc6
          clear hal hIc hb5 hS5
          refine ordM_take 4 ?vq12 rfl (by kernel_rfl) (by kernel_rfl) (by kernel_rfl) (by kernel_rfl) (fun _ _ _ h => h) (by rfl) ?hq12 (by assumption) ?rq12
          case hq12 => (intro W hSw; (try dsimp only at hSw); go_simp <;> with_reducible rfl)
          (try simp only [Act.put, List.setIfInBounds_toArray, List.set_cons_zero, List.set_cons_succ])
          have hx6 := hBd.later hb6
          have hne : gx ≠ gy := by have := hBd.at9.lt; omega
          have ho := put9_only w6 gy (.int .i64 (am 1 a0 1024)) (.int .i64 (am 1 a1 16777216)) (.slice va l.length vc) (.int .i64 (x.c 0)) (.int .i64 (x.c 1)) (.int .i64 (x.c 2)) (.int .i64 (x.c 3)) (.int .i64 (x.c 4)) (.int .i64 (x.c 5))
          have hZ := atQ9_put hY (.int .i64 (am 1 a0 1024)) (.int .i64 (am 1 a1 16777216)) (.slice va l.length vc) (.int .i64 (x.c 0)) (.int .i64 (x.c 1)) (.int .i64 (x.c 2)) (.int .i64 (x.c 3)) (.int .i64 (x.c 4)) (.int .i64 (x.c 5))
          have hS7 : (((((((((w6.setCell ⟨gy, 0, none⟩ (.int .i64 (am 1 a0 1024))).setCell ⟨gy, 1, none⟩ (.int .i64 (am 1 a1 16777216))).setCell ⟨gy, 2, none⟩ (.slice va l.length vc)).setCell ⟨gy, 3, none⟩ (.int .i64 (x.c 0))).setCell ⟨gy, 4, none⟩ (.int .i64 (x.c 1))).setCell ⟨gy, 5, none⟩ (.int .i64 (x.c 2))).setCell ⟨gy, 6, none⟩ (.int .i64 (x.c 3))).setCell ⟨gy, 7, none⟩ (.int .i64 (x.c 4))).setCell ⟨gy, 8, none⟩ (.int .i64 (x.c 5))).cell? ⟨gx, 0, none⟩ = some (.int .i64 (am 1 a0 1024)) ∧ (((((((((w6.setCell ⟨gy, 0, none⟩ (.int .i64 (am 1 a0 1024))).setCell ⟨gy, 1, none⟩ (.int .i64 (am 1 a1 16777216))).setCell ⟨gy, 2, none⟩ (.slice va l.length vc)).setCell ⟨gy, 3, none⟩ (.int .i64 (x.c 0))).setCell ⟨gy, 4, none⟩ (.int .i64 (x.c 1))).setCell ⟨gy, 5, none⟩ (.int .i64 (x.c 2))).setCell ⟨gy, 6, none⟩ (.int .i64 (x.c 3))).setCell ⟨gy, 7, none⟩ (.int .i64 (x.c 4))).setCell ⟨gy, 8, none⟩ (.int .i64 (x.c 5))).cell? ⟨gx, 1, none⟩ = some (.int .i64 (am 1 a1 16777216)) ∧ (((((((((w6.setCell ⟨gy, 0, none⟩ (.int .i64 (am 1 a0 1024))).setCell ⟨gy, 1, none⟩ (.int .i64 (am 1 a1 16777216))).setCell ⟨gy, 2, none⟩ (.slice va l.length vc)).setCell ⟨gy, 3, none⟩ (.int .i64 (x.c 0))).setCell ⟨gy, 4, none⟩ (.int .i64 (x.c 1))).setCell ⟨gy, 5, none⟩ (.int .i64 (x.c 2))).setCell ⟨gy, 6, none⟩ (.int .i64 (x.c 3))).setCell ⟨gy, 7, none⟩ (.int .i64 (x.c 4))).setCell ⟨gy, 8, none⟩ (.int .i64 (x.c 5))).cell? ⟨gx, 2, none⟩ = some (.slice va l.length vc) ∧ (((((((((w6.setCell ⟨gy, 0, none⟩ (.int .i64 (am 1 a0 1024))).setCell ⟨gy, 1, none⟩ (.int .i64 (am 1 a1 16777216))).setCell ⟨gy, 2, none⟩ (.slice va l.length vc)).setCell ⟨gy, 3, none⟩ (.int .i64 (x.c 0))).setCell ⟨gy, 4, none⟩ (.int .i64 (x.c 1))).setCell ⟨gy, 5, none⟩ (.int .i64 (x.c 2))).setCell ⟨gy, 6, none⟩ (.int .i64 (x.c 3))).setCell ⟨gy, 7, none⟩ (.int .i64 (x.c 4))).setCell ⟨gy, 8, none⟩ (.int .i64 (x.c 5))).cell? ⟨gx, 3, none⟩ = some (.int .i64 (x.c 0)) ∧ (((((((((w6.setCell ⟨gy, 0, none⟩ (.int .i64 (am 1 a0 1024))).setCell ⟨gy, 1, none⟩ (.int .i64 (am 1 a1 16777216))).setCell ⟨gy, 2, none⟩ (.slice va l.length vc)).setCell ⟨gy, 3, none⟩ (.int .i64 (x.c 0))).setCell ⟨gy, 4, none⟩ (.int .i64 (x.c 1))).setCell ⟨gy, 5, none⟩ (.int .i64 (x.c 2))).setCell ⟨gy, 6, none⟩ (.int .i64 (x.c 3))).setCell ⟨gy, 7, none⟩ (.int .i64 (x.c 4))).setCell ⟨gy, 8, none⟩ (.int .i64 (x.c 5))).cell? ⟨gx, 4, none⟩ = some (.int .i64 (x.c 1)) ∧ (((((((((w6.setCell ⟨gy, 0, none⟩ (.int .i64 (am 1 a0 1024))).setCell ⟨gy, 1, none⟩ (.int .i64 (am 1 a1 16777216))).setCell ⟨gy, 2, none⟩ (.slice va l.length vc)).setCell ⟨gy, 3, none⟩ (.int .i64 (x.c 0))).setCell ⟨gy, 4, none⟩ (.int .i64 (x.c 1))).setCell ⟨gy, 5, none⟩ (.int .i64 (x.c 2))).setCell ⟨gy, 6, none⟩ (.int .i64 (x.c 3))).setCell ⟨gy, 7, none⟩ (.int .i64 (x.c 4))).setCell ⟨gy, 8, none⟩ (.int .i64 (x.c 5))).cell? ⟨gx, 5, none⟩ = some (.int .i64 (x.c 2)) ∧ (((((((((w6.setCell ⟨gy, 0, none⟩ (.int .i64 (am 1 a0 1024))).setCell ⟨gy, 1, none⟩ (.int .i64 (am 1 a1 16777216))).setCell ⟨gy, 2, none⟩ (.slice va l.length vc)).setCell ⟨gy, 3, none⟩ (.int .i64 (x.c 0))).setCell ⟨gy, 4, none⟩ (.int .i64 (x.c 1))).setCell ⟨gy, 5, none⟩ (.int .i64 (x.c 2))).setCell ⟨gy, 6, none⟩ (.int .i64 (x.c 3))).setCell ⟨gy, 7, none⟩ (.int .i64 (x.c 4))).setCell ⟨gy, 8, none⟩ (.int .i64 (x.c 5))).cell? ⟨gx, 6, none⟩ = some (.int .i64 (x.c 3)) ∧ (((((((((w6.setCell ⟨gy, 0, none⟩ (.int .i64 (am 1 a0 1024))).setCell ⟨gy, 1, none⟩ (.int .i64 (am 1 a1 16777216))).setCell ⟨gy, 2, none⟩ (.slice va l.length vc)).setCell ⟨gy, 3, none⟩ (.int .i64 (x.c 0))).setCell ⟨gy, 4, none⟩ (.int .i64 (x.c 1))).setCell ⟨gy, 5, none⟩ (.int .i64 (x.c 2))).setCell ⟨gy, 6, none⟩ (.int .i64 (x.c 3))).setCell ⟨gy, 7, none⟩ (.int .i64 (x.c 4))).setCell ⟨gy, 8, none⟩ (.int .i64 (x.c 5))).cell? ⟨gx, 7, none⟩ = some (.int .i64 (x.c 4)) ∧ (((((((((w6.setCell ⟨gy, 0, none⟩ (.int .i64 (am 1 a0 1024))).setCell ⟨gy, 1, none⟩ (.int .i64 (am 1 a1 16777216))).setCell ⟨gy, 2, none⟩ (.slice va l.length vc)).setCell ⟨gy, 3, none⟩ (.int .i64 (x.c 0))).setCell ⟨gy, 4, none⟩ (.int .i64 (x.c 1))).setCell ⟨gy, 5, none⟩ (.int .i64 (x.c 2))).setCell ⟨gy, 6, none⟩ (.int .i64 (x.c 3))).setCell ⟨gy, 7, none⟩ (.int .i64 (x.c 4))).setCell ⟨gy, 8, none⟩ (.int .i64 (x.c 5))).cell? ⟨gx, 8, none⟩ = some (.int .i64 (x.c 5)) := AtQ.cells9 (hx6.at9.only hne ho)
          obtain ⟨_, _, _, _, _, _, _, _, _⟩ := AtQ.cells9 hY
          obtain ⟨_, _, _, _, _, _, _, _, _⟩ := AtQ.frees9 hY
          refine ordM_ready [5] (by kernel_rfl) (by simp) ?_
          refine AllReadyM.cons rfl (fun K hK => ?_) AllReadyM.nil
          go_simp
          refine hK.out _ _ (fun _ => hS7) ?_
          clear hK K
          (try simp only [Act.put, List.setIfInBounds_toArray, List.set_cons_zero, List.set_cons_succ])
          refine ordM_done (by kernel_rfl) ?_ _
          refine NoPanic.normal ?_
          have hB7 : NeBoth (((((((((w6.setCell ⟨gy, 0, none⟩ (.int .i64 (am 1 a0 1024))).setCell ⟨gy, 1, none⟩ (.int .i64 (am 1 a1 16777216))).setCell ⟨gy, 2, none⟩ (.slice va l.length vc)).setCell ⟨gy, 3, none⟩ (.int .i64 (x.c 0))).setCell ⟨gy, 4, none⟩ (.int .i64 (x.c 1))).setCell ⟨gy, 5, none⟩ (.int .i64 (x.c 2))).setCell ⟨gy, 6, none⟩ (.int .i64 (x.c 3))).setCell ⟨gy, 7, none⟩ (.int .i64 (x.c 4))).setCell ⟨gy, 8, none⟩ (.int .i64 (x.c 5))) a0 a1 B gn gx n x (.slice va l.length vc) l k := ⟨hx6.nin.only hY ho (by decide) (by decide), hx6.eq, hx6.row.keep (by rw [ho.size]; exact Nat.le_refl _) (fun q cs q1 q2 => ho.block q (fun e => by
            subst e
            exact blkQ_ne (T := 84) (T' := 34) q2 hY (by decide) rfl)), hx6.at9.only hne ho, hx6.lm, hx6.lb, hx6.nk, hx6.len, hx6.ct⟩
          have hC7 : NeBoth (((((((((w6.setCell ⟨gy, 0, none⟩ (.int .i64 (am 1 a0 1024))).setCell ⟨gy, 1, none⟩ (.int .i64 (am 1 a1 16777216))).setCell ⟨gy, 2, none⟩ (.slice va l.length vc)).setCell ⟨gy, 3, none⟩ (.int .i64 (x.c 0))).setCell ⟨gy, 4, none⟩ (.int .i64 (x.c 1))).setCell ⟨gy, 5, none⟩ (.int .i64 (x.c 2))).setCell ⟨gy, 6, none⟩ (.int .i64 (x.c 3))).setCell ⟨gy, 7, none⟩ (.int .i64 (x.c 4))).setCell ⟨gy, 8, none⟩ (.int .i64 (x.c 5))) a0 a1 B2 gc gy nc ⟨x.m, x.b, mpc, VV, x.G, x.c⟩ (.slice va l.length vc) l (k + 1) := ⟨hIc6.only hY ho (by decide) (by decide), ⟨hx6.eq.g, hx6.eq.tx⟩, hB7.row, hZ, hx6.lm, hx6.lb, by have := hx6.nk; omega, by have := hx6.len; omega, fun i => by have := hx6.ct i; exact ⟨this.1, by show x.c i ≤ ((k + 1 : Nat) : Int); omega⟩⟩
          have hltd := hBd.at9.lt
          have hW7 := (hWd.trans (hb6.mono (by omega))).trans (ho.below (by omega))
          have hgyg : g ≤ gy := by omega
          have hgB2 : g ≤ B2 := by have := hfar gn (.inl rfl); have := hx6.nin.bs; omega
          generalize (((((((((w6.setCell ⟨gy, 0, none⟩ (.int .i64 (am 1 a0 1024))).setCell ⟨gy, 1, none⟩ (.int .i64 (am 1 a1 16777216))).setCell ⟨gy, 2, none⟩ (.slice va l.length vc)).setCell ⟨gy, 3, none⟩ (.int .i64 (x.c 0))).setCell ⟨gy, 4, none⟩ (.int .i64 (x.c 1))).setCell ⟨gy, 5, none⟩ (.int .i64 (x.c 2))).setCell ⟨gy, 6, none⟩ (.int .i64 (x.c 3))).setCell ⟨gy, 7, none⟩ (.int .i64 (x.c 4))).setCell ⟨gy, 8, none⟩ (.int .i64 (x.c 5))) = w7 at *
          generalize hx2 : (⟨x.m, x.b, mpc, VV, x.G, x.c⟩ : NE) = x20 at hC7
          clear hS7 hx6 hZ ho hY hIc6 hb6 hBd hWd hSd hx2
          go_wp2_with fail
          go_loopw [9, 13] (fun s9 s13 wr => ∃ (k2 n2 : Nat) (x2 : NE) (v2 : Value) (l2 : List OD), k2 ≤ len2 ∧ k2 ≤ 15 ∧ s13 = .int .i64 k2 ∧ Hid (NeBoth wr a0 a1 B gn gx n x (.slice va l.length vc) l k) ∧ Hid (NeBoth wr a0 a1 B2 gc gy n2 x2 v2 l2 (k + 1 + k2)) ∧ Hid (Below g w wr)) (fun _ s13 _ => 15 - (intOf s13).toNat)
          case atStart => exact ⟨0, nc, x20, .slice va l.length vc, l, Nat.zero_le _, by omega, rfl, Lib.hid hB7, Lib.hid hC7, Lib.hid hW7⟩
          case round =>
            obtain ⟨k2, n2, x2, v2, l2, hk2, hk15, rfl, HB, HC, HW⟩ := hrel
            clear hB7 hC7 hW7
            by_cases hlt2 : k2 < len2 ∧ k2 < 15
            · obtain ⟨hlt2, hlt15⟩ := hlt2
              obtain ⟨ab, off, rfl, hab, kd, wy, pt, ix, bt, mk, d, hwf, hmk, wds, hact⟩ := HACT2.out k2 hlt2 wr HW.out
              have hdk : decide ((k2 : Int) < (len2 : Int)) = true := decide_eq_true (by omega)
              have hdk2 : decide ((k2 : Int) < 15) = true := decide_eq_true (by omega)
              have hki : (k2 : Int) < len2 := by omega
              go_upto_region 20 with fail
              have hBd := HC.out.drew
              have hSd : wr.drew.cell? ⟨ab, off + k2 * 7, none⟩ = some (.int .i64 kd) ∧ wr.drew.cell? ⟨ab, off + k2 * 7 + 1, none⟩ = some (.int .i64 wy) ∧ wr.drew.cell? ⟨ab, off + k2 * 7 + 2, none⟩ = some (.int .i64 pt) ∧ wr.drew.cell? ⟨ab, off + k2 * 7 + 3, none⟩ = some (.int .i64 ix) ∧ wr.drew.cell? ⟨ab, off + k2 * 7 + 4, none⟩ = some (.int .i64 bt) ∧ wr.drew.cell? ⟨ab, off + k2 * 7 + 5, none⟩ = some (.int .u32 (mk : Int)) ∧ wr.drew.cell? ⟨ab, off + k2 * 7 + 6, none⟩ = some (.string d) := hact
              refine wp_region_noPanic ?_
              refine ordM_begin (fun W : World => W.cell? ⟨ab, off + k2 * 7, none⟩ = some (.int .i64 kd) ∧ W.cell? ⟨ab, off + k2 * 7 + 1, none⟩ = some (.int .i64 wy) ∧ W.cell? ⟨ab, off + k2 * 7 + 2, none⟩ = some (.int .i64 pt) ∧ W.cell? ⟨ab, off + k2 * 7 + 3, none⟩ = some (.int .i64 ix) ∧ W.cell? ⟨ab, off + k2 * 7 + 4, none⟩ = some (.int .i64 bt) ∧ W.cell? ⟨ab, off + k2 * 7 + 5, none⟩ = some (.int .u32 (mk : Int)) ∧ W.cell? ⟨ab, off + k2 * 7 + 6, none⟩ = some (.string d)) (fun i => false) (by kernel_rfl) hSd ?_
              have hWd := HW.out.drew
              have hBs := HB.out.drew
              generalize wr.drew = wd at *
              have hB9 : NeBoth wd a0 a1 _ _ _ _ _ _ _ _ := hBd
              obtain ⟨_, _, _, _, _, _, _, _, _⟩ := AtQ.cells9 hBd.at9
              refine ordM_take 0 ?vq13 rfl (by kernel_rfl) (by kernel_rfl) (by kernel_rfl) (by kernel_rfl) (fun _ _ _ h => h) (by rfl) ?hq13 (by assumption) ?rq13
              case hq13 => (intro W hSw; (try dsimp only at hSw); go_simp <;> with_reducible rfl)
              (try simp only [Act.put, List.setIfInBounds_toArray, List.set_cons_zero, List.set_cons_succ])
              refine ordM_take 2 ?vq14 rfl (by kernel_rfl) (by kernel_rfl) (by kernel_rfl) (by kernel_rfl) (fun _ _ _ h => h) (by rfl) ?hq14 (by assumption) ?rq14
              case hq14 => (intro W hSw; (try dsimp only at hSw); go_simp <;> with_reducible rfl)
              (try simp only [Act.put, List.setIfInBounds_toArray, List.set_cons_zero, List.set_cons_succ])
              refine ordM_take 3 ?vq15 rfl (by kernel_rfl) (by kernel_rfl) (by kernel_rfl) (by kernel_rfl) (fun _ _ _ h => h) (by rfl) ?hq15 (by assumption) ?rq15
              case hq15 => (intro W hSw; (try dsimp only at hSw); go_simp <;> with_reducible rfl)
              (try simp only [Act.put, List.setIfInBounds_toArray, List.set_cons_zero, List.set_cons_succ])
              refine ordM_take 4 ?vq16 rfl (by kernel_rfl) (by kernel_rfl) (by kernel_rfl) (by kernel_rfl) (fun _ _ _ h => h) (by rfl) ?hq16 (by assumption) ?rq16
              case hq16 => (intro W hSw; (try dsimp only at hSw); go_simp <;> with_reducible rfl)
              (try simp only [Act.put, List.setIfInBounds_toArray, List.set_cons_zero, List.set_cons_succ])
              refine ordM_take 5 ?vq17 rfl (by kernel_rfl) (by kernel_rfl) (by kernel_rfl) (by kernel_rfl) (fun _ _ _ h => h) (by rfl) ?hq17 (by assumption) ?rq17
              case hq17 => (intro W hSw; (try dsimp only at hSw); go_simp <;> with_reducible rfl)
              (try simp only [Act.put, List.setIfInBounds_toArray, List.set_cons_zero, List.set_cons_succ])
              refine ordM_ready [1] (by kernel_rfl) (by simp) ?_
              refine AllReadyM.cons rfl (fun K hK => ?_) AllReadyM.nil
              go_simp
              refine hK.out _ _ (fun _ => hSd) ?_
              clear hK K
              (try simp only [Act.put, List.setIfInBounds_toArray, List.set_cons_zero, List.set_cons_succ])
              refine ordM_ready [6] (by kernel_rfl) (by simp) ?_
              refine AllReadyM.cons rfl (fun K hK => ?_) AllReadyM.nil
              go_simp
              go_at_call 9
              refine (hBd.do_any (by omega) kd wy pt ix bt mk hmk d hwf wds).mono ?_
              rintro e w5 ⟨x5, v5, l5, rfl, hD⟩
              obtain ⟨va, vc, rfl⟩ := hD.row.formG
              unfold neBox
              (try go_wp2_with fail)
              have hA5 := hBd.at9.nkeep hBd.nin hD.keep (by decide) (by decide)
              have hk5 := hD.keep.below hBd.nin
              have hS5 : w5.cell? ⟨ab, off + k2 * 7, none⟩ = some (.int .i64 kd) ∧ w5.cell? ⟨ab, off + k2 * 7 + 1, none⟩ = some (.int .i64 wy) ∧ w5.cell? ⟨ab, off + k2 * 7 + 2, none⟩ = some (.int .i64 pt) ∧ w5.cell? ⟨ab, off + k2 * 7 + 3, none⟩ = some (.int .i64 ix) ∧ w5.cell? ⟨ab, off + k2 * 7 + 4, none⟩ = some (.int .i64 bt) ∧ w5.cell? ⟨ab, off + k2 * 7 + 5, none⟩ = some (.int .u32 (mk : Int)) ∧ w5.cell? ⟨ab, off + k2 * 7 + 6, none⟩ = some (.string d) := cells7_keep hSd (hk5.block ab (by omega))
              refine hK.out _ _ (fun _ => hS5) ?_
              clear hK K
              (try simp only [Act.put, List.setIfInBounds_toArray, List.set_cons_zero, List.set_cons_succ])
              refine ordM_take 7 ?vq18 rfl (by kernel_rfl) (by kernel_rfl) (by kernel_rfl) (by kernel_rfl) (fun _ _ _ h => h) (by rfl) ?hq18 (by assumption) ?rq18
              case hq18 => (intro W hSw; (try dsimp only at hSw); go_simp <;> with_reducible rfl)
              (try simp only [Act.put, List.setIfInBounds_toArray, List.set_cons_zero, List.set_cons_succ])
              refine ordM_take 8 ?vq19 rfl (by kernel_rfl) (by kernel_rfl) (by kernel_rfl) (by kernel_rfl) (fun _ _ _ h => h) (by rfl) ?hq19 (by assumption) ?rq19
              case hq19 => (intro W hSw; (try dsimp only at hSw); go_simp <;> with_reducible rfl)
              (try simp only [Act.put, List.setIfInBounds_toArray, List.set_cons_zero, List.set_cons_succ])
              refine ordM_take 9 ?vq20 rfl (by kernel_rfl) (by kernel_rfl) (by kernel_rfl) (by kernel_rfl) (fun _ _ _ h => h) (by rfl) ?hq20 (by assumption) ?rq20
              case hq20 => (intro W hSw; (try dsimp only at hSw); go_simp <;> with_reducible rfl)
              (try simp only [Act.put, List.setIfInBounds_toArray, List.set_cons_zero, List.set_cons_succ])
              have ho := put9_only w5 gy (.int .i64 (am 1 a0 1024)) (.int .i64 (am 1 a1 16777216)) (.slice va l5.length vc) (.int .i64 (x5.c 0)) (.int .i64 (x5.c 1)) (.int .i64 (x5.c 2)) (.int .i64 (x5.c 3)) (.int .i64 (x5.c 4)) (.int .i64 (x5.c 5))
              have hZ := atQ9_put hA5 (.int .i64 (am 1 a0 1024)) (.int .i64 (am 1 a1 16777216)) (.slice va l5.length vc) (.int .i64 (x5.c 0)) (.int .i64 (x5.c 1)) (.int .i64 (x5.c 2)) (.int .i64 (x5.c 3)) (.int .i64 (x5.c 4)) (.int .i64 (x5.c 5))
              have hS8 : (((((((((w5.setCell ⟨gy, 0, none⟩ (.int .i64 (am 1 a0 1024))).setCell ⟨gy, 1, none⟩ (.int .i64 (am 1 a1 16777216))).setCell ⟨gy, 2, none⟩ (.slice va l5.length vc)).setCell ⟨gy, 3, none⟩ (.int .i64 (x5.c 0))).setCell ⟨gy, 4, none⟩ (.int .i64 (x5.c 1))).setCell ⟨gy, 5, none⟩ (.int .i64 (x5.c 2))).setCell ⟨gy, 6, none⟩ (.int .i64 (x5.c 3))).setCell ⟨gy, 7, none⟩ (.int .i64 (x5.c 4))).setCell ⟨gy, 8, none⟩ (.int .i64 (x5.c 5))).cell? ⟨ab, off + k2 * 7, none⟩ = some (.int .i64 kd) ∧ (((((((((w5.setCell ⟨gy, 0, none⟩ (.int .i64 (am 1 a0 1024))).setCell ⟨gy, 1, none⟩ (.int .i64 (am 1 a1 16777216))).setCell ⟨gy, 2, none⟩ (.slice va l5.length vc)).setCell ⟨gy, 3, none⟩ (.int .i64 (x5.c 0))).setCell ⟨gy, 4, none⟩ (.int .i64 (x5.c 1))).setCell ⟨gy, 5, none⟩ (.int .i64 (x5.c 2))).setCell ⟨gy, 6, none⟩ (.int .i64 (x5.c 3))).setCell ⟨gy, 7, none⟩ (.int .i64 (x5.c 4))).setCell ⟨gy, 8, none⟩ (.int .i64 (x5.c 5))).cell? ⟨ab, off + k2 * 7 + 1, none⟩ = some (.int .i64 wy) ∧ (((((((((w5.setCell ⟨gy, 0, none⟩ (.int .i64 (am 1 a0 1024))).setCell ⟨gy, 1, none⟩ (.int .i64 (am 1 a1 16777216))).setCell ⟨gy, 2, none⟩ (.slice va l5.length vc)).setCell ⟨gy, 3, none⟩ (.int .i64 (x5.c 0))).setCell ⟨gy, 4, none⟩ (.int .i64 (x5.c 1))).setCell ⟨gy, 5, none⟩ (.int .i64 (x5.c 2))).setCell ⟨gy, 6, none⟩ (.int .i64 (x5.c 3))).setCell ⟨gy, 7, none⟩ (.int .i64 (x5.c 4))).setCell ⟨gy, 8, none⟩ (.int .i64 (x5.c 5))).cell? ⟨ab, off + k2 * 7 + 2, none⟩ = some (.int .i64 pt) ∧ (((((((((w5.setCell ⟨gy, 0, none⟩ (.int .i64 (am 1 a0 1024))).setCell ⟨gy, 1, none⟩ (.int .i64 (am 1 a1 16777216))).setCell ⟨gy, 2, none⟩ (.slice va l5.length vc)).setCell ⟨gy, 3, none⟩ (.int .i64 (x5.c 0))).setCell ⟨gy, 4, none⟩ (.int .i64 (x5.c 1))).setCell ⟨gy, 5, none⟩ (.int .i64 (x5.c 2))).setCell ⟨gy, 6, none⟩ (.int .i64 (x5.c 3))).setCell ⟨gy, 7, none⟩ (.int .i64 (x5.c 4))).setCell ⟨gy, 8, none⟩ (.int .i64 (x5.c 5))).cell? ⟨ab, off + k2 * 7 + 3, none⟩ = some (.int .i64 ix) ∧ (((((((((w5.setCell ⟨gy, 0, none⟩ (.int .i64 (am 1 a0 1024))).setCell ⟨gy, 1, none⟩ (.int .i64 (am 1 a1 16777216))).setCell ⟨gy, 2, none⟩ (.slice va l5.length vc)).setCell ⟨gy, 3, none⟩ (.int .i64 (x5.c 0))).setCell ⟨gy, 4, none⟩ (.int .i64 (x5.c 1))).setCell ⟨gy, 5, none⟩ (.int .i64 (x5.c 2))).setCell ⟨gy, 6, none⟩ (.int .i64 (x5.c 3))).setCell ⟨gy, 7, none⟩ (.int .i64 (x5.c 4))).setCell ⟨gy, 8, none⟩ (.int .i64 (x5.c 5))).cell? ⟨ab, off + k2 * 7 + 4, none⟩ = some (.int .i64 bt) ∧ (((((((((w5.setCell ⟨gy, 0, none⟩ (.int .i64 (am 1 a0 1024))).setCell ⟨gy, 1, none⟩ (.int .i64 (am 1 a1 16777216))).setCell ⟨gy, 2, none⟩ (.slice va l5.length vc)).setCell ⟨gy, 3, none⟩ (.int .i64 (x5.c 0))).setCell ⟨gy, 4, none⟩ (.int .i64 (x5.c 1))).setCell ⟨gy, 5, none⟩ (.int .i64 (x5.c 2))).setCell ⟨gy, 6, none⟩ (.int .i64 (x5.c 3))).setCell ⟨gy, 7, none⟩ (.int .i64 (x5.c 4))).setCell ⟨gy, 8, none⟩ (.int .i64 (x5.c 5))).cell? ⟨ab, off + k2 * 7 + 5, none⟩ = some (.int .u32 (mk : Int)) ∧ (((((((((w5.setCell ⟨gy, 0, none⟩ (.int .i64 (am 1 a0 1024))).setCell ⟨gy, 1, none⟩ (.int .i64 (am 1 a1 16777216))).setCell ⟨gy, 2, none⟩ (.slice va l5.length vc)).setCell ⟨gy, 3, none⟩ (.int .i64 (x5.c 0))).setCell ⟨gy, 4, none⟩ (.int .i64 (x5.c 1))).setCell ⟨gy, 5, none⟩ (.int .i64 (x5.c 2))).setCell ⟨gy, 6, none⟩ (.int .i64 (x5.c 3))).setCell ⟨gy, 7, none⟩ (.int .i64 (x5.c 4))).setCell ⟨gy, 8, none⟩ (.int .i64 (x5.c 5))).cell? ⟨ab, off + k2 * 7 + 6, none⟩ = some (.string d) := cells7_keep hS5 (ho.block ab (by omega))
              obtain ⟨_, _, _, _, _, _, _, _, _⟩ := AtQ.cells9 hA5
              obtain ⟨_, _, _, _, _, _, _, _, _⟩ := AtQ.frees9 hA5
              refine ordM_ready [10] (by kernel_rfl) (by simp) ?_
              refine AllReadyM.cons rfl (fun K hK => ?_) AllReadyM.nil
              go_simp
              refine hK.out _ _ (fun _ => hS8) ?_
              clear hK K
              (try simp only [Act.put, List.setIfInBounds_toArray, List.set_cons_zero, List.set_cons_succ])
              refine ordM_take 11 ?vq21 rfl (by kernel_rfl) (by kernel_rfl) (by kernel_rfl) (by kernel_rfl) (fun _ _ _ h => h) (by rfl) ?hq21 (by assumption) ?rq21
              case hq21 => (intro W hSw; (try dsimp only at hSw); go_simp <;> with_reducible rfl)
              (try simp only [Act.put, List.setIfInBounds_toArray, List.set_cons_zero, List.set_cons_succ])
              refine ordM_done (by kernel_rfl) ?_ _
              refine NoPanic.normal ?_
              have hC8 := hBd.next hD ho hZ
              have hB8s := hBs.beside hBd hfar hne hD ho
              have hW8 := (hWd.trans (hk5.mono (by omega))).trans (ho.below (by omega))
              generalize (((((((((w5.setCell ⟨gy, 0, none⟩ (.int .i64 (am 1 a0 1024))).setCell ⟨gy, 1, none⟩ (.int .i64 (am 1 a1 16777216))).setCell ⟨gy, 2, none⟩ (.slice va l5.length vc)).setCell ⟨gy, 3, none⟩ (.int .i64 (x5.c 0))).setCell ⟨gy, 4, none⟩ (.int .i64 (x5.c 1))).setCell ⟨gy, 5, none⟩ (.int .i64 (x5.c 2))).setCell ⟨gy, 6, none⟩ (.int .i64 (x5.c 3))).setCell ⟨gy, 7, none⟩ (.int .i64 (x5.c 4))).setCell ⟨gy, 8, none⟩ (.int .i64 (x5.c 5))) = w8 at *
              clear hS8 hS5 hSd hact hA5 hk5 hD hZ ho hBd hWd hB9
              go_wp2_with fail
              go_roundw
              case rel => exact ⟨k2 + 1, n2 + 1, x5, _, l5, by omega, by omega, by go_num, Lib.hid hB8s, Lib.hid hC8, Lib.hid hW8⟩
              case measure => simp [intOf]; omega
            · by_cases hq2 : k2 < len2
              · have hd21 : decide ((k2 : Int) < (len2 : Int)) = true := decide_eq_true (by omega)
                have hd22 : decide ((k2 : Int) < 15) = false := decide_eq_false (by omega)
                obtain ⟨vb, vd, rfl⟩ := HC.out.row.formG
                go_wp2_with fail
                refine (neClip_any a0 a1 _).mono ?_
                rintro e wk ⟨rfl, hbk⟩
                have hK := atQ_new 29 wk wk.heap.size #[.int .i64 (am 1 a0 1024), .int .i64 (am 1 a1 16777216)] rfl
                have hal : Below wk.heap.size wk (wk.alloc (.cells #[.int .i64 (am 1 a0 1024), .int .i64 (am 1 a1 16777216)] 29)) := (Below.refl _ _).alloc (Nat.le_refl _) _
                have hbl := hbk.trans (hal.mono hbk.size)
                have hB9 := HB.out.later hbl
                have hC9 := HC.out.later hbl
                have hgr : g ≤ wr.heap.size := by have := HB.out.at9.lt; omega
                have hW9 := HW.out.trans (hbl.mono hgr)
                go_upto_region 24 with fail
                generalize (wk.alloc (.cells #[.int .i64 (am 1 a0 1024), .int .i64 (am 1 a1 16777216)] 29)) = w9 at *
                generalize wk.heap.size = gk at *
                clear hal hbl hbk HB HC HW
                obtain ⟨_, _, _, _, _, _, _, _, _⟩ := AtQ.cells9 hB9.at9
                have HISX := Lib.hid (hB9.is_any (by omega))
                unfold neBox at HISX
                go_wp2_with fail
                refine HISX.out.mono ?_
                rintro e wm ⟨rfl, hbm⟩
                have hCm := hC9.later hbm
                have hBm := hB9.later hbm
                have hKm := hK.later hbm
                have hgm : g ≤ w9.heap.size := by have := hB9.at9.lt; omega
                have hWm := hW9.trans (hbm.mono hgm)
                obtain ⟨_, _, _, _, _, _, _, _, _⟩ := AtQ.cells9 hCm.at9
                have HISY := Lib.hid (hCm.is_any (by omega))
                unfold neBox at HISY
                go_wp2_with fail
                refine HISY.out.mono ?_
                rintro e wn ⟨rfl, hbn⟩
                obtain ⟨_, _, _, _, _, _, _, _, _⟩ := AtQ.cells9 (hBm.later hbn).at9
                obtain ⟨_, _⟩ := (hKm.later hbn).cells2
                have hgn : g ≤ wm.heap.size := by have := hBm.at9.lt; omega
                have hWn := hWm.trans (hbn.mono hgn)
                go_wp2_with fail
                go_ret
                exact ⟨rfl, by rw [HG.out]; exact hWn⟩
              · have hd21 : decide ((k2 : Int) < (len2 : Int)) = false := decide_eq_false (by omega)
                obtain ⟨vb, vd, rfl⟩ := HC.out.row.formG
                go_wp2_with fail
                refine (neClip_any a0 a1 _).mono ?_
                rintro e wk ⟨rfl, hbk⟩
                have hK := atQ_new 29 wk wk.heap.size #[.int .i64 (am 1 a0 1024), .int .i64 (am 1 a1 16777216)] rfl
                have hal : Below wk.heap.size wk (wk.alloc (.cells #[.int .i64 (am 1 a0 1024), .int .i64 (am 1 a1 16777216)] 29)) := (Below.refl _ _).alloc (Nat.le_refl _) _
                have hbl := hbk.trans (hal.mono hbk.size)
                have hB9 := HB.out.later hbl
                have hC9 := HC.out.later hbl
                have hgr : g ≤ wr.heap.size := by have := HB.out.at9.lt; omega
                have hW9 := HW.out.trans (hbl.mono hgr)
                go_upto_region 24 with fail
                generalize (wk.alloc (.cells #[.int .i64 (am 1 a0 1024), .int .i64 (am 1 a1 16777216)] 29)) = w9 at *
                generalize wk.heap.size = gk at *
                clear hal hbl hbk HB HC HW
                obtain ⟨_, _, _, _, _, _, _, _, _⟩ := AtQ.cells9 hB9.at9
                have HISX := Lib.hid (hB9.is_any (by omega))
                unfold neBox at HISX
                go_wp2_with fail
                refine HISX.out.mono ?_
                rintro e wm ⟨rfl, hbm⟩
                have hCm := hC9.later hbm
                have hBm := hB9.later hbm
                have hKm := hK.later hbm
                have hgm : g ≤ w9.heap.size := by have := hB9.at9.lt; omega
                have hWm := hW9.trans (hbm.mono hgm)
                obtain ⟨_, _, _, _, _, _, _, _, _⟩ := AtQ.cells9 hCm.at9
                have HISY := Lib.hid (hCm.is_any (by omega))
                unfold neBox at HISY
                go_wp2_with fail
                refine HISY.out.mono ?_
                rintro e wn ⟨rfl, hbn⟩
                obtain ⟨_, _, _, _, _, _, _, _, _⟩ := AtQ.cells9 (hBm.later hbn).at9
                obtain ⟨_, _⟩ := (hKm.later hbn).cells2
                have hgn : g ≤ wm.heap.size := by have := hBm.at9.lt; omega
                have hWn := hWm.trans (hbn.mono hgn)
                go_wp2_with fail
                go_ret
                exact ⟨rfl, by rw [HG.out]; exact hWn⟩
        · go_simp
          have hal : Below wd.heap.size wd (wd.alloc (.cells #[.int .i64 0, .int .i64 0, .slice none 0 0, .int .i64 0, .int .i64 0, .int .i64 0, .int .i64 0, .int .i64 0, .int .i64 0] 34)) := (Below.refl _ _).alloc (Nat.le_refl _) _
          have hS5 : (wd.alloc (.cells #[.int .i64 0, .int .i64 0, .slice none 0 0, .int .i64 0, .int .i64 0, .int .i64 0, .int .i64 0, .int .i64 0, .int .i64 0] 34)).cell? ⟨gx, 0, none⟩ = some (.int .i64 (am 1 a0 1024)) ∧ (wd.alloc (.cells #[.int .i64 0, .int .i64 0, .slice none 0 0, .int .i64 0, .int .i64 0, .int .i64 0, .int .i64 0, .int .i64 0, .int .i64 0] 34)).cell? ⟨gx, 1, none⟩ = some (.int .i64 (am 1 a1 16777216)) ∧ (wd.alloc (.cells #[.int .i64 0, .int .i64 0, .slice none 0 0, .int .i64 0, .int .i64 0, .int .i64 0, .int .i64 0, .int .i64 0, .int .i64 0] 34)).cell? ⟨gx, 2, none⟩ = some (.slice va l.length vc) ∧ (wd.alloc (.cells #[.int .i64 0, .int .i64 0, .slice none 0 0, .int .i64 0, .int .i64 0, .int .i64 0, .int .i64 0, .int .i64 0, .int .i64 0] 34)).cell? ⟨gx, 3, none⟩ = some (.int .i64 (x.c 0)) ∧ (wd.alloc (.cells #[.int .i64 0, .int .i64 0, .slice none 0 0, .int .i64 0, .int .i64 0, .int .i64 0, .int .i64 0, .int .i64 0, .int .i64 0] 34)).cell? ⟨gx, 4, none⟩ = some (.int .i64 (x.c 1)) ∧ (wd.alloc (.cells #[.int .i64 0, .int .i64 0, .slice none 0 0, .int .i64 0, .int .i64 0, .int .i64 0, .int .i64 0, .int .i64 0, .int .i64 0] 34)).cell? ⟨gx, 5, none⟩ = some (.int .i64 (x.c 2)) ∧ (wd.alloc (.cells #[.int .i64 0, .int .i64 0, .slice none 0 0, .int .i64 0, .int .i64 0, .int .i64 0, .int .i64 0, .int .i64 0, .int .i64 0] 34)).cell? ⟨gx, 6, none⟩ = some (.int .i64 (x.c 3)) ∧ (wd.alloc (.cells #[.int .i64 0, .int .i64 0, .slice none 0 0, .int .i64 0, .int .i64 0, .int .i64 0, .int .i64 0, .int .i64 0, .int .i64 0] 34)).cell? ⟨gx, 7, none⟩ = some (.int .i64 (x.c 4)) ∧ (wd.alloc (.cells #[.int .i64 0, .int .i64 0, .slice none 0 0, .int .i64 0, .int .i64 0, .int .i64 0, .int .i64 0, .int .i64 0, .int .i64 0] 34)).cell? ⟨gx, 8, none⟩ = some (.int .i64 (x.c 5)) := AtQ.cells9 (hBd.at9.later hal)
          refine hK.out _ _ (fun _ => hS5) ?_
          clear hK K
          (try simp only [Act.put, List.setIfInBounds_toArray, List.set_cons_zero, List.set_cons_succ])
          have hY5 := atQ_new 34 wd wd.heap.size #[.int .i64 0, .int .i64 0, .slice none 0 0, .int .i64 0, .int .i64 0, .int .i64 0, .int .i64 0, .int .i64 0, .int .i64 0] rfl
          have hBa := hBd.later hal
          obtain ⟨wp, hwp⟩ : ∃ z, (wd.alloc (.cells #[.int .i64 0, .int .i64 0, .slice none 0 0, .int .i64 0, .int .i64 0, .int .i64 0, .int .i64 0, .int .i64 0, .int .i64 0] 34)) = z := ⟨_, rfl⟩
          rw [hwp] at hal hS5 hY5 hBa ⊢
          refine ordM_ready [1] (by kernel_rfl) (by simp) ?_
          refine AllReadyM.cons rfl (fun K hK => ?_) AllReadyM.nil
          go_simp
          go_at_call 11
          refine (neClone_any hBa.nin (by have := hBd.nk; omega)).mono ?_
          rintro e w5 ⟨gc, nc, VV, mpc, rfl, hIc, hnc, hb5⟩
          (try go_wp2_with fail)
          have hb6 := hal.trans (hb5.mono hal.size)
          have hS6 : w5.cell? ⟨gx, 0, none⟩ = some (.int .i64 (am 1 a0 1024)) ∧ w5.cell? ⟨gx, 1, none⟩ = some (.int .i64 (am 1 a1 16777216)) ∧ w5.cell? ⟨gx, 2, none⟩ = some (.slice va l.length vc) ∧ w5.cell? ⟨gx, 3, none⟩ = some (.int .i64 (x.c 0)) ∧ w5.cell? ⟨gx, 4, none⟩ = some (.int .i64 (x.c 1)) ∧ w5.cell? ⟨gx, 5, none⟩ = some (.int .i64 (x.c 2)) ∧ w5.cell? ⟨gx, 6, none⟩ = some (.int .i64 (x.c 3)) ∧ w5.cell? ⟨gx, 7, none⟩ = some (.int .i64 (x.c 4)) ∧ w5.cell? ⟨gx, 8, none⟩ = some (.int .i64 (x.c 5)) := AtQ.cells9 (hBd.at9.later hb6)
          refine hK.out _ _ (fun _ => hS6) ?_
          clear hK K
          (try simp only [Act.put, List.setIfInBounds_toArray, List.set_cons_zero, List.set_cons_succ])
          have hY := hY5.later hb5
          have hIc6 := hIc
          have hsz6 : wd.heap.size ≤ wd.heap.size := Nat.le_refl _
          obtain ⟨B2, hB2⟩ : ∃ z, wp.heap.size = z := ⟨_, rfl⟩
          have hfar : ∀ q, NFoot gn x q → q < B2 := fun q hq => by have := (hBa.nin.foot_lt hq).2; omega
          obtain ⟨w6, hw6⟩ : ∃ z, w5 = z := ⟨_, rfl⟩
          rw [hw6] at hY hIc6 hS6 hb6 ⊢
          have hlt6 : gx < wd.heap.size := hBd.at9.lt
          have hgy6 : wd.heap.size < w6.heap.size := by have := hY.lt; omega
          obtain ⟨gy, hgy⟩ : ∃ z, wd.heap.size = z := ⟨_, rfl⟩
          rw [show (Value.pointer (some ⟨wd.heap.size, 0, none⟩)) = Value.pointer (some ⟨gy, 0, none⟩) from by rw [hgy]]
          have hsz6 : wd.heap.size ≤ gy := by omega
          rw [hgy] at hY
          rw [hB2] at hIc6
          clear hal hY5 hBa hIc hb5 hS5
          refine ordM_take 4 ?vq22 rfl (by kernel_rfl) (by kernel_rfl) (by kernel_rfl) (by kernel_rfl) (fun _ _ _ h => h) (by rfl) ?hq22 (by assumption) ?rq22
          case hq22 => (intro W hSw; (try dsimp only at hSw); go_simp <;> with_reducible rfl)
          (try simp only [Act.put, List.setIfInBounds_toArray, List.set_cons_zero, List.set_cons_succ])
          have hx6 := hBd.later hb6
          have hne : gx ≠ gy := by have := hBd.at9.lt; omega
          have ho := put9_only w6 gy (.int .i64 (am 1 a0 1024)) (.int .i64 (am 1 a1 16777216)) (.slice va l.length vc) (.int .i64 (x.c 0)) (.int .i64 (x.c 1)) (.int .i64 (x.c 2)) (.int .i64 (x.c 3)) (.int .i64 (x.c 4)) (.int .i64 (x.c 5))
          have hZ := atQ9_put hY (.int .i64 (am 1 a0 1024)) (.int .i64 (am 1 a1 16777216)) (.slice va l.length vc) (.int .i64 (x.c 0)) (.int .i64 (x.c 1)) (.int .i64 (x.c 2)) (.int .i64 (x.c 3)) (.int .i64 (x.c 4)) (.int .i64 (x.c 5))
          have hS7 : (((((((((w6.setCell ⟨gy, 0, none⟩ (.int .i64 (am 1 a0 1024))).setCell ⟨gy, 1, none⟩ (.int .i64 (am 1 a1 16777216))).setCell ⟨gy, 2, none⟩ (.slice va l.length vc)).setCell ⟨gy, 3, none⟩ (.int .i64 (x.c 0))).setCell ⟨gy, 4, none⟩ (.int .i64 (x.c 1))).setCell ⟨gy, 5, none⟩ (.int .i64 (x.c 2))).setCell ⟨gy, 6, none⟩ (.int .i64 (x.c 3))).setCell ⟨gy, 7, none⟩ (.int .i64 (x.c 4))).setCell ⟨gy, 8, none⟩ (.int .i64 (x.c 5))).cell? ⟨gx, 0, none⟩ = some (.int .i64 (am 1 a0 1024)) ∧ (((((((((w6.setCell ⟨gy, 0, none⟩ (.int .i64 (am 1 a0 1024))).setCell ⟨gy, 1, none⟩ (.int .i64 (am 1 a1 16777216))).setCell ⟨gy, 2, none⟩ (.slice va l.length vc)).setCell ⟨gy, 3, none⟩ (.int .i64 (x.c 0))).setCell ⟨gy, 4, none⟩ (.int .i64 (x.c 1))).setCell ⟨gy, 5, none⟩ (.int .i64 (x.c 2))).setCell ⟨gy, 6, none⟩ (.int .i64 (x.c 3))).setCell ⟨gy, 7, none⟩ (.int .i64 (x.c 4))).setCell ⟨gy, 8, none⟩ (.int .i64 (x.c 5))).cell? ⟨gx, 1, none⟩ = some (.int .i64 (am 1 a1 16777216)) ∧ (((((((((w6.setCell ⟨gy, 0, none⟩ (.int .i64 (am 1 a0 1024))).setCell ⟨gy, 1, none⟩ (.int .i64 (am 1 a1 16777216))).setCell ⟨gy, 2, none⟩ (.slice va l.length vc)).setCell ⟨gy, 3, none⟩ (.int .i64 (x.c 0))).setCell ⟨gy, 4, none⟩ (.int .i64 (x.c 1))).setCell ⟨gy, 5, none⟩ (.int .i64 (x.c 2))).setCell ⟨gy, 6, none⟩ (.int .i64 (x.c 3))).setCell ⟨gy, 7, none⟩ (.int .i64 (x.c 4))).setCell ⟨gy, 8, none⟩ (.int .i64 (x.c 5))).cell? ⟨gx, 2, none⟩ = some (.slice va l.length vc) ∧ (((((((((w6.setCell ⟨gy, 0, none⟩ (.int .i64 (am 1 a0 1024))).setCell ⟨gy, 1, none⟩ (.int .i64 (am 1 a1 16777216))).setCell ⟨gy, 2, none⟩ (.slice va l.length vc)).setCell ⟨gy, 3, none⟩ (.int .i64 (x.c 0))).setCell ⟨gy, 4, none⟩ (.int .i64 (x.c 1))).setCell ⟨gy, 5, none⟩ (.int .i64 (x.c 2))).setCell ⟨gy, 6, none⟩ (.int .i64 (x.c 3))).setCell ⟨gy, 7, none⟩ (.int .i64 (x.c 4))).setCell ⟨gy, 8, none⟩ (.int .i64 (x.c 5))).cell? ⟨gx, 3, none⟩ = some (.int .i64 (x.c 0)) ∧ (((((((((w6.setCell ⟨gy, 0, none⟩ (.int .i64 (am 1 a0 1024))).setCell ⟨gy, 1, none⟩ (.int .i64 (am 1 a1 16777216))).setCell ⟨gy, 2, none⟩ (.slice va l.length vc)).setCell ⟨gy, 3, none⟩ (.int .i64 (x.c 0))).setCell ⟨gy, 4, none⟩ (.int .i64 (x.c 1))).setCell ⟨gy, 5, none⟩ (.int .i64 (x.c 2))).setCell ⟨gy, 6, none⟩ (.int .i64 (x.c 3))).setCell ⟨gy, 7, none⟩ (.int .i64 (x.c 4))).setCell ⟨gy, 8, none⟩ (.int .i64 (x.c 5))).cell? ⟨gx, 4, none⟩ = some (.int .i64 (x.c 1)) ∧ (((((((((w6.setCell ⟨gy, 0, none⟩ (.int .i64 (am 1 a0 1024))).setCell ⟨gy, 1, none⟩ (.int .i64 (am 1 a1 16777216))).setCell ⟨gy, 2, none⟩ (.slice va l.length vc)).setCell ⟨gy, 3, none⟩ (.int .i64 (x.c 0))).setCell ⟨gy, 4, none⟩ (.int .i64 (x.c 1))).setCell ⟨gy, 5, none⟩ (.int .i64 (x.c 2))).setCell ⟨gy, 6, none⟩ (.int .i64 (x.c 3))).setCell ⟨gy, 7, none⟩ (.int .i64 (x.c 4))).setCell ⟨gy, 8, none⟩ (.int .i64 (x.c 5))).cell? ⟨gx, 5, none⟩ = some (.int .i64 (x.c 2)) ∧ (((((((((w6.setCell ⟨gy, 0, none⟩ (.int .i64 (am 1 a0 1024))).setCell ⟨gy, 1, none⟩ (.int .i64 (am 1 a1 16777216))).setCell ⟨gy, 2, none⟩ (.slice va l.length vc)).setCell ⟨gy, 3, none⟩ (.int .i64 (x.c 0))).setCell ⟨gy, 4, none⟩ (.int .i64 (x.c 1))).setCell ⟨gy, 5, none⟩ (.int .i64 (x.c 2))).setCell ⟨gy, 6, none⟩ (.int .i64 (x.c 3))).setCell ⟨gy, 7, none⟩ (.int .i64 (x.c 4))).setCell ⟨gy, 8, none⟩ (.int .i64 (x.c 5))).cell? ⟨gx, 6, none⟩ = some (.int .i64 (x.c 3)) ∧ (((((((((w6.setCell ⟨gy, 0, none⟩ (.int .i64 (am 1 a0 1024))).setCell ⟨gy, 1, none⟩ (.int .i64 (am 1 a1 16777216))).setCell ⟨gy, 2, none⟩ (.slice va l.length vc)).setCell ⟨gy, 3, none⟩ (.int .i64 (x.c 0))).setCell ⟨gy, 4, none⟩ (.int .i64 (x.c 1))).setCell ⟨gy, 5, none⟩ (.int .i64 (x.c 2))).setCell ⟨gy, 6, none⟩ (.int .i64 (x.c 3))).setCell ⟨gy, 7, none⟩ (.int .i64 (x.c 4))).setCell ⟨gy, 8, none⟩ (.int .i64 (x.c 5))).cell? ⟨gx, 7, none⟩ = some (.int .i64 (x.c 4)) ∧ (((((((((w6.setCell ⟨gy, 0, none⟩ (.int .i64 (am 1 a0 1024))).setCell ⟨gy, 1, none⟩ (.int .i64 (am 1 a1 16777216))).setCell ⟨gy, 2, none⟩ (.slice va l.length vc)).setCell ⟨gy, 3, none⟩ (.int .i64 (x.c 0))).setCell ⟨gy, 4, none⟩ (.int .i64 (x.c 1))).setCell ⟨gy, 5, none⟩ (.int .i64 (x.c 2))).setCell ⟨gy, 6, none⟩ (.int .i64 (x.c 3))).setCell ⟨gy, 7, none⟩ (.int .i64 (x.c 4))).setCell ⟨gy, 8, none⟩ (.int .i64 (x.c 5))).cell? ⟨gx, 8, none⟩ = some (.int .i64 (x.c 5)) := AtQ.cells9 (hx6.at9.only hne ho)
          obtain ⟨_, _, _, _, _, _, _, _, _⟩ := AtQ.cells9 hY
          obtain ⟨_, _, _, _, _, _, _, _, _⟩ := AtQ.frees9 hY
          refine ordM_ready [5] (by kernel_rfl) (by simp) ?_
          refine AllReadyM.cons rfl (fun K hK => ?_) AllReadyM.nil
          go_simp
          refine hK.out _ _ (fun _ => hS7) ?_
          clear hK K
          (try simp only [Act.put, List.setIfInBounds_toArray, List.set_cons_zero, List.set_cons_succ])
          refine ordM_done (by kernel_rfl) ?_ _
          refine NoPanic.normal ?_
          have hB7 : NeBoth (((((((((w6.setCell ⟨gy, 0, none⟩ (.int .i64 (am 1 a0 1024))).setCell ⟨gy, 1, none⟩ (.int .i64 (am 1 a1 16777216))).setCell ⟨gy, 2, none⟩ (.slice va l.length vc)).setCell ⟨gy, 3, none⟩ (.int .i64 (x.c 0))).setCell ⟨gy, 4, none⟩ (.int .i64 (x.c 1))).setCell ⟨gy, 5, none⟩ (.int .i64 (x.c 2))).setCell ⟨gy, 6, none⟩ (.int .i64 (x.c 3))).setCell ⟨gy, 7, none⟩ (.int .i64 (x.c 4))).setCell ⟨gy, 8, none⟩ (.int .i64 (x.c 5))) a0 a1 B gn gx n x (.slice va l.length vc) l k := ⟨hx6.nin.only hY ho (by decide) (by decide), hx6.eq, hx6.row.keep (by rw [ho.size]; exact Nat.le_refl _) (fun q cs q1 q2 => ho.block q (fun e => by
            subst e
            exact blkQ_ne (T := 84) (T' := 34) q2 hY (by decide) rfl)), hx6.at9.only hne ho, hx6.lm, hx6.lb, hx6.nk, hx6.len, hx6.ct⟩
          have hC7 : NeBoth (((((((((w6.setCell ⟨gy, 0, none⟩ (.int .i64 (am 1 a0 1024))).setCell ⟨gy, 1, none⟩ (.int .i64 (am 1 a1 16777216))).setCell ⟨gy, 2, none⟩ (.slice va l.length vc)).setCell ⟨gy, 3, none⟩ (.int .i64 (x.c 0))).setCell ⟨gy, 4, none⟩ (.int .i64 (x.c 1))).setCell ⟨gy, 5, none⟩ (.int .i64 (x.c 2))).setCell ⟨gy, 6, none⟩ (.int .i64 (x.c 3))).setCell ⟨gy, 7, none⟩ (.int .i64 (x.c 4))).setCell ⟨gy, 8, none⟩ (.int .i64 (x.c 5))) a0 a1 B2 gc gy nc ⟨x.m, x.b, mpc, VV, x.G, x.c⟩ (.slice va l.length vc) l (k + 1) := ⟨hIc6.only hY ho (by decide) (by decide), ⟨hx6.eq.g, hx6.eq.tx⟩, hB7.row, hZ, hx6.lm, hx6.lb, by have := hx6.nk; omega, by have := hx6.len; omega, fun i => by have := hx6.ct i; exact ⟨this.1, by show x.c i ≤ ((k + 1 : Nat) : Int); omega⟩⟩
          have hltd := hBd.at9.lt
          have hW7 := (hWd.trans (hb6.mono (by omega))).trans (ho.below (by omega))
          have hgyg : g ≤ gy := by omega
          have hgB2 : g ≤ B2 := by have := hfar gn (.inl rfl); have := hx6.nin.bs; omega
          generalize (((((((((w6.setCell ⟨gy, 0, none⟩ (.int .i64 (am 1 a0 1024))).setCell ⟨gy, 1, none⟩ (.int .i64 (am 1 a1 16777216))).setCell ⟨gy, 2, none⟩ (.slice va l.length vc)).setCell ⟨gy, 3, none⟩ (.int .i64 (x.c 0))).setCell ⟨gy, 4, none⟩ (.int .i64 (x.c 1))).setCell ⟨gy, 5, none⟩ (.int .i64 (x.c 2))).setCell ⟨gy, 6, none⟩ (.int .i64 (x.c 3))).setCell ⟨gy, 7, none⟩ (.int .i64 (x.c 4))).setCell ⟨gy, 8, none⟩ (.int .i64 (x.c 5))) = w7 at *
          generalize hx2 : (⟨x.m, x.b, mpc, VV, x.G, x.c⟩ : NE) = x20 at hC7
          clear hS7 hx6 hZ ho hY hIc6 hb6 hBd hWd hSd hx2
          go_wp2_with fail
          go_loopw [9, 13] (fun s9 s13 wr => ∃ (k2 n2 : Nat) (x2 : NE) (v2 : Value) (l2 : List OD), k2 ≤ len2 ∧ k2 ≤ 15 ∧ s13 = .int .i64 k2 ∧ Hid (NeBoth wr a0 a1 B gn gx n x (.slice va l.length vc) l k) ∧ Hid (NeBoth wr a0 a1 B2 gc gy n2 x2 v2 l2 (k + 1 + k2)) ∧ Hid (Below g w wr)) (fun _ s13 _ => 15 - (intOf s13).toNat)
          case atStart => exact ⟨0, nc, x20, .slice va l.length vc, l, Nat.zero_le _, by omega, rfl, Lib.hid hB7, Lib.hid hC7, Lib.hid hW7⟩
          case round =>
            obtain ⟨k2, n2, x2, v2, l2, hk2, hk15, rfl, HB, HC, HW⟩ := hrel
            clear hB7 hC7 hW7
            by_cases hlt2 : k2 < len2 ∧ k2 < 15
            · obtain ⟨hlt2, hlt15⟩ := hlt2
              obtain ⟨ab, off, rfl, hab, kd, wy, pt, ix, bt, mk, d, hwf, hmk, wds, hact⟩ := HACT2.out k2 hlt2 wr HW.out
              have hdk : decide ((k2 : Int) < (len2 : Int)) = true := decide_eq_true (by omega)
              have hdk2 : decide ((k2 : Int) < 15) = true := decide_eq_true (by omega)
              have hki : (k2 : Int) < len2 := by omega
              go_upto_region 20 with fail
              have hBd := HC.out.drew
              have hSd : wr.drew.cell? ⟨ab, off + k2 * 7, none⟩ = some (.int .i64 kd) ∧ wr.drew.cell? ⟨ab, off + k2 * 7 + 1, none⟩ = some (.int .i64 wy) ∧ wr.drew.cell? ⟨ab, off + k2 * 7 + 2, none⟩ = some (.int .i64 pt) ∧ wr.drew.cell? ⟨ab, off + k2 * 7 + 3, none⟩ = some (.int .i64 ix) ∧ wr.drew.cell? ⟨ab, off + k2 * 7 + 4, none⟩ = some (.int .i64 bt) ∧ wr.drew.cell? ⟨ab, off + k2 * 7 + 5, none⟩ = some (.int .u32 (mk : Int)) ∧ wr.drew.cell? ⟨ab, off + k2 * 7 + 6, none⟩ = some (.string d) := hact
              refine wp_region_noPanic ?_
              refine ordM_begin (fun W : World => W.cell? ⟨ab, off + k2 * 7, none⟩ = some (.int .i64 kd) ∧ W.cell? ⟨ab, off + k2 * 7 + 1, none⟩ = some (.int .i64 wy) ∧ W.cell? ⟨ab, off + k2 * 7 + 2, none⟩ = some (.int .i64 pt) ∧ W.cell? ⟨ab, off + k2 * 7 + 3, none⟩ = some (.int .i64 ix) ∧ W.cell? ⟨ab, off + k2 * 7 + 4, none⟩ = some (.int .i64 bt) ∧ W.cell? ⟨ab, off + k2 * 7 + 5, none⟩ = some (.int .u32 (mk : Int)) ∧ W.cell? ⟨ab, off + k2 * 7 + 6, none⟩ = some (.string d)) (fun i => false) (by kernel_rfl) hSd ?_
              have hWd := HW.out.drew
              have hBs := HB.out.drew
              generalize wr.drew = wd at *
              have hB9 : NeBoth wd a0 a1 _ _ _ _ _ _ _ _ := hBd
              obtain ⟨_, _, _, _, _, _, _, _, _⟩ := AtQ.cells9 hBd.at9
              refine ordM_take 0 ?vq23 rfl (by kernel_rfl) (by kernel_rfl) (by kernel_rfl) (by kernel_rfl) (fun _ _ _ h => h) (by rfl) ?hq23 (by assumption) ?rq23
              case hq23 => (intro W hSw; (try dsimp only at hSw); go_simp <;> with_reducible rfl)
              (try simp only [Act.put, List.setIfInBounds_toArray, List.set_cons_zero, List.set_cons_succ])
              refine ordM_take 2 ?vq24 rfl (by kernel_rfl) (by kernel_rfl) (by kernel_rfl) (by kernel_rfl) (fun _ _ _ h => h) (by rfl) ?hq24 (by assumption) ?rq24
              case hq24 => (intro W hSw; (try dsimp only at hSw); go_simp <;> with_reducible rfl)
              (try simp only [Act.put, List.setIfInBounds_toArray, List.set_cons_zero, List.set_cons_succ])
              refine ordM_take 3 ?vq25 rfl (by kernel_rfl) (by kernel_rfl) (by kernel_rfl) (by kernel_rfl) (fun _ _ _ h => h) (by rfl) ?hq25 (by assumption) ?rq25
              case hq25 => (intro W hSw; (try dsimp only at hSw); go_simp <;> with_reducible rfl)
              (try simp only [Act.put, List.setIfInBounds_toArray, List.set_cons_zero, List.set_cons_succ])
              refine ordM_take 4 ?vq26 rfl (by kernel_rfl) (by kernel_rfl) (by kernel_rfl) (by kernel_rfl) (fun _ _ _ h => h) (by rfl) ?hq26 (by assumption) ?rq26
              case hq26 => (intro W hSw; (try dsimp only at hSw); go_simp <;> with_reducible rfl)
              (try simp only [Act.put, List.setIfInBounds_toArray, List.set_cons_zero, List.set_cons_succ])
              refine ordM_take 5 ?vq27 rfl (by kernel_rfl) (by kernel_rfl) (by kernel_rfl) (by kernel_rfl) (fun _ _ _ h => h) (by rfl) ?hq27 (by assumption) ?rq27
              case hq27 => (intro W hSw; (try dsimp only at hSw); go_simp <;> with_reducible rfl)
              (try simp only [Act.put, List.setIfInBounds_toArray, List.set_cons_zero, List.set_cons_succ])
              refine ordM_ready [1] (by kernel_rfl) (by simp) ?_
              refine AllReadyM.cons rfl (fun K hK => ?_) AllReadyM.nil
              go_simp
              refine hK.out _ _ (fun _ => hSd) ?_
              clear hK K
              (try simp only [Act.put, List.setIfInBounds_toArray, List.set_cons_zero, List.set_cons_succ])
              refine ordM_ready [6] (by kernel_rfl) (by simp) ?_
              refine AllReadyM.cons rfl (fun K hK => ?_) AllReadyM.nil
              go_simp
              go_at_call 9
              refine (hBd.do_any (by omega) kd wy pt ix bt mk hmk d hwf wds).mono ?_
              rintro e w5 ⟨x5, v5, l5, rfl, hD⟩
              obtain ⟨va, vc, rfl⟩ := hD.row.formG
              unfold neBox
              (try go_wp2_with fail)
              have hA5 := hBd.at9.nkeep hBd.nin hD.keep (by decide) (by decide)
              have hk5 := hD.keep.below hBd.nin
              have hS5 : w5.cell? ⟨ab, off + k2 * 7, none⟩ = some (.int .i64 kd) ∧ w5.cell? ⟨ab, off + k2 * 7 + 1, none⟩ = some (.int .i64 wy) ∧ w5.cell? ⟨ab, off + k2 * 7 + 2, none⟩ = some (.int .i64 pt) ∧ w5.cell? ⟨ab, off + k2 * 7 + 3, none⟩ = some (.int .i64 ix) ∧ w5.cell? ⟨ab, off + k2 * 7 + 4, none⟩ = some (.int .i64 bt) ∧ w5.cell? ⟨ab, off + k2 * 7 + 5, none⟩ = some (.int .u32 (mk : Int)) ∧ w5.cell? ⟨ab, off + k2 * 7 + 6, none⟩ = some (.string d) := cells7_keep hSd (hk5.block ab (by omega))
              refine hK.out _ _ (fun _ => hS5) ?_
              clear hK K
              (try simp only [Act.put, List.setIfInBounds_toArray, List.set_cons_zero, List.set_cons_succ])
              refine ordM_take 7 ?vq28 rfl (by kernel_rfl) (by kernel_rfl) (by kernel_rfl) (by kernel_rfl) (fun _ _ _ h => h) (by rfl) ?hq28 (by assumption) ?rq28
              case hq28 => (intro W hSw; (try dsimp only at hSw); go_simp <;> with_reducible rfl)
              (try simp only [Act.put, List.setIfInBounds_toArray, List.set_cons_zero, List.set_cons_succ])
              refine ordM_take 8 ?vq29 rfl (by kernel_rfl) (by kernel_rfl) (by kernel_rfl) (by kernel_rfl) (fun _ _ _ h => h) (by rfl) ?hq29 (by assumption) ?rq29
              case hq29 => (intro W hSw; (try dsimp only at hSw); go_simp <;> with_reducible rfl)
              (try simp only [Act.put, List.setIfInBounds_toArray, List.set_cons_zero, List.set_cons_succ])
              refine ordM_take 9 ?vq30 rfl (by kernel_rfl) (by kernel_rfl) (by kernel_rfl) (by kernel_rfl) (fun _ _ _ h => h) (by rfl) ?hq30 (by assumption) ?rq30
              case hq30 => (intro W hSw; (try dsimp only at hSw); go_simp <;> with_reducible rfl)
              (try simp only [Act.put, List.setIfInBounds_toArray, List.set_cons_zero, List.set_cons_succ])
              have ho := put9_only w5 gy (.int .i64 (am 1 a0 1024)) (.int .i64 (am 1 a1 16777216)) (.slice va l5.length vc) (.int .i64 (x5.c 0)) (.int .i64 (x5.c 1)) (.int .i64 (x5.c 2)) (.int .i64 (x5.c 3)) (.int .i64 (x5.c 4)) (.int .i64 (x5.c 5))
              have hZ := atQ9_put hA5 (.int .i64 (am 1 a0 1024)) (.int .i64 (am 1 a1 16777216)) (.slice va l5.length vc) (.int .i64 (x5.c 0)) (.int .i64 (x5.c 1)) (.int .i64 (x5.c 2)) (.int .i64 (x5.c 3)) (.int .i64 (x5.c 4)) (.int .i64 (x5.c 5))
              have hS8 : (((((((((w5.setCell ⟨gy, 0, none⟩ (.int .i64 (am 1 a0 1024))).setCell ⟨gy, 1, none⟩ (.int .i64 (am 1 a1 16777216))).setCell ⟨gy, 2, none⟩ (.slice va l5.length vc)).setCell ⟨gy, 3, none⟩ (.int .i64 (x5.c 0))).setCell ⟨gy, 4, none⟩ (.int .i64 (x5.c 1))).setCell ⟨gy, 5, none⟩ (.int .i64 (x5.c 2))).setCell ⟨gy, 6, none⟩ (.int .i64 (x5.c 3))).setCell ⟨gy, 7, none⟩ (.int .i64 (x5.c 4))).setCell ⟨gy, 8, none⟩ (.int .i64 (x5.c 5))).cell? ⟨ab, off + k2 * 7, none⟩ = some (.int .i64 kd) ∧ (((((((((w5.setCell ⟨gy, 0, none⟩ (.int .i64 (am 1 a0 1024))).setCell ⟨gy, 1, none⟩ (.int .i64 (am 1 a1 16777216))).setCell ⟨gy, 2, none⟩ (.slice va l5.length vc)).setCell ⟨gy, 3, none⟩ (.int .i64 (x5.c 0))).setCell ⟨gy, 4, none⟩ (.int .i64 (x5.c 1))).setCell ⟨gy, 5, none⟩ (.int .i64 (x5.c 2))).setCell ⟨gy, 6, none⟩ (.int .i64 (x5.c 3))).setCell ⟨gy, 7, none⟩ (.int .i64 (x5.c 4))).setCell ⟨gy, 8, none⟩ (.int .i64 (x5.c 5))).cell? ⟨ab, off + k2 * 7 + 1, none⟩ = some (.int .i64 wy) ∧ (((((((((w5.setCell ⟨gy, 0, none⟩ (.int .i64 (am 1 a0 1024))).setCell ⟨gy, 1, none⟩ (.int .i64 (am 1 a1 16777216))).setCell ⟨gy, 2, none⟩ (.slice va l5.length vc)).setCell ⟨gy, 3, none⟩ (.int .i64 (x5.c 0))).setCell ⟨gy, 4, none⟩ (.int .i64 (x5.c 1))).setCell ⟨gy, 5, none⟩ (.int .i64 (x5.c 2))).setCell ⟨gy, 6, none⟩ (.int .i64 (x5.c 3))).setCell ⟨gy, 7, none⟩ (.int .i64 (x5.c 4))).setCell ⟨gy, 8, none⟩ (.int .i64 (x5.c 5))).cell? ⟨ab, off + k2 * 7 + 2, none⟩ = some (.int .i64 pt) ∧ (((((((((w5.setCell ⟨gy, 0, none⟩ (.int .i64 (am 1 a0 1024))).setCell ⟨gy, 1, none⟩ (.int .i64 (am 1 a1 16777216))).setCell ⟨gy, 2, none⟩ (.slice va l5.length vc)).setCell ⟨gy, 3, none⟩ (.int .i64 (x5.c 0))).setCell ⟨gy, 4, none⟩ (.int .i64 (x5.c 1))).setCell ⟨gy, 5, none⟩ (.int .i64 (x5.c 2))).setCell ⟨gy, 6, none⟩ (.int .i64 (x5.c 3))).setCell ⟨gy, 7, none⟩ (.int .i64 (x5.c 4))).setCell ⟨gy, 8, none⟩ (.int .i64 (x5.c 5))).cell? ⟨ab, off + k2 * 7 + 3, none⟩ = some (.int .i64 ix) ∧ (((((((((w5.setCell ⟨gy, 0, none⟩ (.int .i64 (am 1 a0 1024))).setCell ⟨gy, 1, none⟩ (.int .i64 (am 1 a1 16777216))).setCell ⟨gy, 2, none⟩ (.slice va l5.length vc)).setCell ⟨gy, 3, none⟩ (.int .i64 (x5.c 0))).setCell ⟨gy, 4, none⟩ (.int .i64 (x5.c 1))).setCell ⟨gy, 5, none⟩ (.int .i64 (x5.c 2))).setCell ⟨gy, 6, none⟩ (.int .i64 (x5.c 3))).setCell ⟨gy, 7, none⟩ (.int .i64 (x5.c 4))).setCell ⟨gy, 8, none⟩ (.int .i64 (x5.c 5))).cell? ⟨ab, off + k2 * 7 + 4, none⟩ = some (.int .i64 bt) ∧ (((((((((w5.setCell ⟨gy, 0, none⟩ (.int .i64 (am 1 a0 1024))).setCell ⟨gy, 1, none⟩ (.int .i64 (am 1 a1 16777216))).setCell ⟨gy, 2, none⟩ (.slice va l5.length vc)).setCell ⟨gy, 3, none⟩ (.int .i64 (x5.c 0))).setCell ⟨gy, 4, none⟩ (.int .i64 (x5.c 1))).setCell ⟨gy, 5, none⟩ (.int .i64 (x5.c 2))).setCell ⟨gy, 6, none⟩ (.int .i64 (x5.c 3))).setCell ⟨gy, 7, none⟩ (.int .i64 (x5.c 4))).setCell ⟨gy, 8, none⟩ (.int .i64 (x5.c 5))).cell? ⟨ab, off + k2 * 7 + 5, none⟩ = some (.int .u32 (mk : Int)) ∧ (((((((((w5.setCell ⟨gy, 0, none⟩ (.int .i64 (am 1 a0 1024))).setCell ⟨gy, 1, none⟩ (.int .i64 (am 1 a1 16777216))).setCell ⟨gy, 2, none⟩ (.slice va l5.length vc)).setCell ⟨gy, 3, none⟩ (.int .i64 (x5.c 0))).setCell ⟨gy, 4, none⟩ (.int .i64 (x5.c 1))).setCell ⟨gy, 5, none⟩ (.int .i64 (x5.c 2))).setCell ⟨gy, 6, none⟩ (.int .i64 (x5.c 3))).setCell ⟨gy, 7, none⟩ (.int .i64 (x5.c 4))).setCell ⟨gy, 8, none⟩ (.int .i64 (x5.c 5))).cell? ⟨ab, off + k2 * 7 + 6, none⟩ = some (.string d) := cells7_keep hS5 (ho.block ab (by omega))
              obtain ⟨_, _, _, _, _, _, _, _, _⟩ := AtQ.cells9 hA5
              obtain ⟨_, _, _, _, _, _, _, _, _⟩ := AtQ.frees9 hA5
              refine ordM_ready [10] (by kernel_rfl) (by simp) ?_
              refine AllReadyM.cons rfl (fun K hK => ?_) AllReadyM.nil
              go_simp
              refine hK.out _ _ (fun _ => hS8) ?_
              clear hK K
              (try simp only [Act.put, List.setIfInBounds_toArray, List.set_cons_zero, List.set_cons_succ])
              refine ordM_take 11 ?vq31 rfl (by kernel_rfl) (by kernel_rfl) (by kernel_rfl) (by kernel_rfl) (fun _ _ _ h => h) (by rfl) ?hq31 (by assumption) ?rq31
              case hq31 => (intro W hSw; (try dsimp only at hSw); go_simp <;> with_reducible rfl)
              (try simp only [Act.put, List.setIfInBounds_toArray, List.set_cons_zero, List.set_cons_succ])
              refine ordM_done (by kernel_rfl) ?_ _
              refine NoPanic.normal ?_
              have hC8 := hBd.next hD ho hZ
              have hB8s := hBs.beside hBd hfar hne hD ho
              have hW8 := (hWd.trans (hk5.mono (by omega))).trans (ho.below (by omega))
              generalize (((((((((w5.setCell ⟨gy, 0, none⟩ (.int .i64 (am 1 a0 1024))).setCell ⟨gy, 1, none⟩ (.int .i64 (am 1 a1 16777216))).setCell ⟨gy, 2, none⟩ (.slice va l5.length vc)).setCell ⟨gy, 3, none⟩ (.int .i64 (x5.c 0))).setCell ⟨gy, 4, none⟩ (.int .i64 (x5.c 1))).setCell ⟨gy, 5, none⟩ (.int .i64 (x5.c 2))).setCell ⟨gy, 6, none⟩ (.int .i64 (x5.c 3))).setCell ⟨gy, 7, none⟩ (.int .i64 (x5.c 4))).setCell ⟨gy, 8, none⟩ (.int .i64 (x5.c 5))) = w8 at *
              clear hS8 hS5 hSd hact hA5 hk5 hD hZ ho hBd hWd hB9
              go_wp2_with fail
              go_roundw
              case rel => exact ⟨k2 + 1, n2 + 1, x5, _, l5, by omega, by omega, by go_num, Lib.hid hB8s, Lib.hid hC8, Lib.hid hW8⟩
              case measure => simp [intOf]; omega
            · by_cases hq2 : k2 < len2
              · have hd21 : decide ((k2 : Int) < (len2 : Int)) = true := decide_eq_true (by omega)
                have hd22 : decide ((k2 : Int) < 15) = false := decide_eq_false (by omega)
                obtain ⟨vb, vd, rfl⟩ := HC.out.row.formG
                go_wp2_with fail
                refine (neClip_any a0 a1 _).mono ?_
                rintro e wk ⟨rfl, hbk⟩
                have hK := atQ_new 29 wk wk.heap.size #[.int .i64 (am 1 a0 1024), .int .i64 (am 1 a1 16777216)] rfl
                have hal : Below wk.heap.size wk (wk.alloc (.cells #[.int .i64 (am 1 a0 1024), .int .i64 (am 1 a1 16777216)] 29)) := (Below.refl _ _).alloc (Nat.le_refl _) _
                have hbl := hbk.trans (hal.mono hbk.size)
                have hB9 := HB.out.later hbl
                have hC9 := HC.out.later hbl
                have hgr : g ≤ wr.heap.size := by have := HB.out.at9.lt; omega
                have hW9 := HW.out.trans (hbl.mono hgr)
                go_upto_region 24 with fail
                generalize (wk.alloc (.cells #[.int .i64 (am 1 a0 1024), .int .i64 (am 1 a1 16777216)] 29)) = w9 at *
                generalize wk.heap.size = gk at *
                clear hal hbl hbk HB HC HW
                obtain ⟨_, _, _, _, _, _, _, _, _⟩ := AtQ.cells9 hB9.at9
                have HISX := Lib.hid (hB9.is_any (by omega))
                unfold neBox at HISX
                go_wp2_with fail
                refine HISX.out.mono ?_
                rintro e wm ⟨rfl, hbm⟩
                have hCm := hC9.later hbm
                have hBm := hB9.later hbm
                have hKm := hK.later hbm
                have hgm : g ≤ w9.heap.size := by have := hB9.at9.lt; omega
                have hWm := hW9.trans (hbm.mono hgm)
                obtain ⟨_, _, _, _, _, _, _, _, _⟩ := AtQ.cells9 hCm.at9
                have HISY := Lib.hid (hCm.is_any (by omega))
                unfold neBox at HISY
                go_wp2_with fail
                refine HISY.out.mono ?_
                rintro e wn ⟨rfl, hbn⟩
                obtain ⟨_, _, _, _, _, _, _, _, _⟩ := AtQ.cells9 (hBm.later hbn).at9
                obtain ⟨_, _⟩ := (hKm.later hbn).cells2
                have hgn : g ≤ wm.heap.size := by have := hBm.at9.lt; omega
                have hWn := hWm.trans (hbn.mono hgn)
                go_wp2_with fail
                go_ret
                exact ⟨rfl, by rw [HG.out]; exact hWn⟩
              · have hd21 : decide ((k2 : Int) < (len2 : Int)) = false := decide_eq_false (by omega)
                obtain ⟨vb, vd, rfl⟩ := HC.out.row.formG
                go_wp2_with fail
                refine (neClip_any a0 a1 _).mono ?_
                rintro e wk ⟨rfl, hbk⟩
                have hK := atQ_new 29 wk wk.heap.size #[.int .i64 (am 1 a0 1024), .int .i64 (am 1 a1 16777216)] rfl
                have hal : Below wk.heap.size wk (wk.alloc (.cells #[.int .i64 (am 1 a0 1024), .int .i64 (am 1 a1 16777216)] 29)) := (Below.refl _ _).alloc (Nat.le_refl _) _
                have hbl := hbk.trans (hal.mono hbk.size)
                have hB9 := HB.out.later hbl
                have hC9 := HC.out.later hbl
                have hgr : g ≤ wr.heap.size := by have := HB.out.at9.lt; omega
                have hW9 := HW.out.trans (hbl.mono hgr)
                go_upto_region 24 with fail
                generalize (wk.alloc (.cells #[.int .i64 (am 1 a0 1024), .int .i64 (am 1 a1 16777216)] 29)) = w9 at *
                generalize wk.heap.size = gk at *
                clear hal hbl hbk HB HC HW
                obtain ⟨_, _, _, _, _, _, _, _, _⟩ := AtQ.cells9 hB9.at9
                have HISX := Lib.hid (hB9.is_any (by omega))
                unfold neBox at HISX
                go_wp2_with fail
                refine HISX.out.mono ?_
                rintro e wm ⟨rfl, hbm⟩
                have hCm := hC9.later hbm
                have hBm := hB9.later hbm
                have hKm := hK.later hbm
                have hgm : g ≤ w9.heap.size := by have := hB9.at9.lt; omega
                have hWm := hW9.trans (hbm.mono hgm)
                obtain ⟨_, _, _, _, _, _, _, _, _⟩ := AtQ.cells9 hCm.at9
                have HISY := Lib.hid (hCm.is_any (by omega))
                unfold neBox at HISY
                go_wp2_with fail
                refine HISY.out.mono ?_
                rintro e wn ⟨rfl, hbn⟩
                obtain ⟨_, _, _, _, _, _, _, _, _⟩ := AtQ.cells9 (hBm.later hbn).at9
                obtain ⟨_, _⟩ := (hKm.later hbn).cells2
                have hgn : g ≤ wm.heap.size := by have := hBm.at9.lt; omega
                have hWn := hWm.trans (hbn.mono hgn)
                go_wp2_with fail
                go_ret
                exact ⟨rfl, by rw [HG.out]; exact hWn⟩
      · have hd1 : decide ((k : Int) < (len1 : Int)) = false := decide_eq_false (by omega)
        clear HB HW hlt
        go_upto_region 14 with fail
        have hBd := hBk.drew
        have hWd := hWk.drew
        have hSd : wr.drew.cell? ⟨gx, 0, none⟩ = some (.int .i64 (am 1 a0 1024)) ∧ wr.drew.cell? ⟨gx, 1, none⟩ = some (.int .i64 (am 1 a1 16777216)) ∧ wr.drew.cell? ⟨gx, 2, none⟩ = some (.slice va l.length vc) ∧ wr.drew.cell? ⟨gx, 3, none⟩ = some (.int .i64 (x.c 0)) ∧ wr.drew.cell? ⟨gx, 4, none⟩ = some (.int .i64 (x.c 1)) ∧ wr.drew.cell? ⟨gx, 5, none⟩ = some (.int .i64 (x.c 2)) ∧ wr.drew.cell? ⟨gx, 6, none⟩ = some (.int .i64 (x.c 3)) ∧ wr.drew.cell? ⟨gx, 7, none⟩ = some (.int .i64 (x.c 4)) ∧ wr.drew.cell? ⟨gx, 8, none⟩ = some (.int .i64 (x.c 5)) := AtQ.cells9 hBd.at9
        refine wp_region_noPanic ?_
        refine ordM_begin (fun W : World => W.cell? ⟨gx, 0, none⟩ = some (.int .i64 (am 1 a0 1024)) ∧ W.cell? ⟨gx, 1, none⟩ = some (.int .i64 (am 1 a1 16777216)) ∧ W.cell? ⟨gx, 2, none⟩ = some (.slice va l.length vc) ∧ W.cell? ⟨gx, 3, none⟩ = some (.int .i64 (x.c 0)) ∧ W.cell? ⟨gx, 4, none⟩ = some (.int .i64 (x.c 1)) ∧ W.cell? ⟨gx, 5, none⟩ = some (.int .i64 (x.c 2)) ∧ W.cell? ⟨gx, 6, none⟩ = some (.int .i64 (x.c 3)) ∧ W.cell? ⟨gx, 7, none⟩ = some (.int .i64 (x.c 4)) ∧ W.cell? ⟨gx, 8, none⟩ = some (.int .i64 (x.c 5))) (fun i => false) (by kernel_rfl) hSd ?_
        have hgxg : g ≤ gx := hgd
        generalize wr.drew = wd at *
        clear hBk hWk
        refine ordM_take 0 ?vq32 rfl (by kernel_rfl) (by kernel_rfl) (by kernel_rfl) (by kernel_rfl) (fun _ _ _ h => h) (by rfl) ?hq32 (by assumption) ?rq32
        case hq32 => (intro W hSw; (try dsimp only at hSw); go_simp <;> with_reducible rfl)
        (try simp only [Act.put, List.setIfInBounds_toArray, List.set_cons_zero, List.set_cons_succ])
        refine ordM_take 2 ?vq33 rfl (by kernel_rfl) (by kernel_rfl) (by kernel_rfl) (by kernel_rfl) (fun _ _ _ h => h) (by rfl) ?hq33 (by assumption) ?rq33
        case hq33 => (intro W hSw; (try dsimp only at hSw); go_simp <;> with_reducible rfl)
        (try simp only [Act.put, List.setIfInBounds_toArray, List.set_cons_zero, List.set_cons_succ])
        refine ordM_ready [1, 3] (by kernel_rfl) (by simp) ?_
        refine AllReadyM.cons rfl (fun K hK => ?_) (AllReadyM.cons rfl (fun K hK => ?_) AllReadyM.nil)
        · go_simp
          go_at_call 11
          refine (neClone_any hBd.nin (by have := hBd.nk; omega)).mono ?_
          rintro e w5 ⟨gc, nc, VV, mpc, rfl, hIc, hnc, hb5⟩
          (try go_wp2_with fail)
          have hS5 : w5.cell? ⟨gx, 0, none⟩ = some (.int .i64 (am 1 a0 1024)) ∧ w5.cell? ⟨gx, 1, none⟩ = some (.int .i64 (am 1 a1 16777216)) ∧ w5.cell? ⟨gx, 2, none⟩ = some (.slice va l.length vc) ∧ w5.cell? ⟨gx, 3, none⟩ = some (.int .i64 (x.c 0)) ∧ w5.cell? ⟨gx, 4, none⟩ = some (.int .i64 (x.c 1)) ∧ w5.cell? ⟨gx, 5, none⟩ = some (.int .i64 (x.c 2)) ∧ w5.cell? ⟨gx, 6, none⟩ = some (.int .i64 (x.c 3)) ∧ w5.cell? ⟨gx, 7, none⟩ = some (.int .i64 (x.c 4)) ∧ w5.cell? ⟨gx, 8, none⟩ = some (.int .i64 (x.c 5)) := AtQ.cells9 (hBd.at9.later hb5)
          refine hK.out _ _ (fun _ => hS5) ?_
          clear hK K
          (try simp only [Act.put, List.setIfInBounds_toArray, List.set_cons_zero, List.set_cons_succ])
          refine ordM_ready [3] (by kernel_rfl) (by simp) ?_
          refine AllReadyM.cons rfl (fun K hK => ?_) AllReadyM.nil
          go_simp
          have hal : Below w5.heap.size w5 (w5.alloc (.cells #[.int .i64 0, .int .i64 0, .slice none 0 0, .int .i64 0, .int .i64 0, .int .i64 0, .int .i64 0, .int .i64 0, .int .i64 0] 34)) := (Below.refl _ _).alloc (Nat.le_refl _) _
          have hb6 := hb5.trans (hal.mono hb5.size)
          have hS6 : (w5.alloc (.cells #[.int .i64 0, .int .i64 0, .slice none 0 0, .int .i64 0, .int .i64 0, .int .i64 0, .int .i64 0, .int .i64 0, .int .i64 0] 34)).cell? ⟨gx, 0, none⟩ = some (.int .i64 (am 1 a0 1024)) ∧ (w5.alloc (.cells #[.int .i64 0, .int .i64 0, .slice none 0 0, .int .i64 0, .int .i64 0, .int .i64 0, .int .i64 0, .int .i64 0, .int .i64 0] 34)).cell? ⟨gx, 1, none⟩ = some (.int .i64 (am 1 a1 16777216)) ∧ (w5.alloc (.cells #[.int .i64 0, .int .i64 0, .slice none 0 0, .int .i64 0, .int .i64 0, .int .i64 0, .int .i64 0, .int .i64 0, .int .i64 0] 34)).cell? ⟨gx, 2, none⟩ = some (.slice va l.length vc) ∧ (w5.alloc (.cells #[.int .i64 0, .int .i64 0, .slice none 0 0, .int .i64 0, .int .i64 0, .int .i64 0, .int .i64 0, .int .i64 0, .int .i64 0] 34)).cell? ⟨gx, 3, none⟩ = some (.int .i64 (x.c 0)) ∧ (w5.alloc (.cells #[.int .i64 0, .int .i64 0, .slice none 0 0, .int .i64 0, .int .i64 0, .int .i64 0, .int .i64 0, .int .i64 0, .int .i64 0] 34)).cell? ⟨gx, 4, none⟩ = some (.int .i64 (x.c 1)) ∧ (w5.alloc (.cells #[.int .i64 0, .int .i64 0, .slice none 0 0, .int .i64 0, .int .i64 0, .int .i64 0, .int .i64 0, .int .i64 0, .int .i64 0] 34)).cell? ⟨gx, 5, none⟩ = some (.int .i64 (x.c 2)) ∧ (w5.alloc (.cells #[.int .i64 0, .int .i64 0, .slice none 0 0, .int .i64 0, .int .i64 0, .int .i64 0, .int .i64 0, .int .i64 0, .int .i64 0] 34)).cell? ⟨gx, 6, none⟩ = some (.int .i64 (x.c 3)) ∧ (w5.alloc (.cells #[.int .i64 0, .int .i64 0, .slice none 0 0, .int .i64 0, .int .i64 0, .int .i64 0, .int .i64 0, .int .i64 0, .int .i64 0] 34)).cell? ⟨gx, 7, none⟩ = some (.int .i64 (x.c 4)) ∧ (w5.alloc (.cells #[.int .i64 0, .int .i64 0, .slice none 0 0, .int .i64 0, .int .i64 0, .int .i64 0, .int .i64 0, .int .i64 0, .int .i64 0] 34)).cell? ⟨gx, 8, none⟩ = some (.int .i64 (x.c 5)) := AtQ.cells9 (hBd.at9.later hb6)
          refine hK.out _ _ (fun _ => hS6) ?_
          clear hK K
          (try simp only [Act.put, List.setIfInBounds_toArray, List.set_cons_zero, List.set_cons_succ])
          have hY := atQ_new 34 w5 w5.heap.size #[.int .i64 0, .int .i64 0, .slice none 0 0, .int .i64 0, .int .i64 0, .int .i64 0, .int .i64 0, .int .i64 0, .int .i64 0] rfl
          have hIc6 := hIc.later hal
          have hsz6 : wd.heap.size ≤ w5.heap.size := hb5.size
          obtain ⟨B2, hB2⟩ : ∃ z, wd.heap.size = z := ⟨_, rfl⟩
          have hfar : ∀ q, NFoot gn x q → q < B2 := fun q hq => by have := (hBd.nin.foot_lt hq).2; omega
          generalize (w5.alloc (.cells #[.int .i64 0, .int .i64 0, .slice none 0 0, .int .i64 0, .int .i64 0, .int .i64 0, .int .i64 0, .int .i64 0, .int .i64 0] 34)) = w6 at *
          generalize w5.heap.size = gy at *
          rw [hB2] at hIc6
          clear hal hIc hb5 hS5
          refine ordM_take 4 ?vq34 rfl (by kernel_rfl) (by kernel_rfl) (by kernel_rfl) (by kernel_rfl) (fun _ _ _ h => h) (by rfl) ?hq34 (by assumption) ?rq34
          case hq34 => (intro W hSw; (try dsimp only at hSw); go_simp <;> with_reducible rfl)
          (try simp only [Act.put, List.setIfInBounds_toArray, List.set_cons_zero, List.set_cons_succ])
          have hx6 := hBd.later hb6
          have hne : gx ≠ gy := by have := hBd.at9.lt; omega
          have ho := put9_only w6 gy (.int .i64 (am 1 a0 1024)) (.int .i64 (am 1 a1 16777216)) (.slice va l.length vc) (.int .i64 (x.c 0)) (.int .i64 (x.c 1)) (.int .i64 (x.c 2)) (.int .i64 (x.c 3)) (.int .i64 (x.c 4)) (.int .i64 (x.c 5))
          have hZ := atQ9_put hY (.int .i64 (am 1 a0 1024)) (.int .i64 (am 1 a1 16777216)) (.slice va l.length vc) (.int .i64 (x.c 0)) (.int .i64 (x.c 1)) (.int .i64 (x.c 2)) (.int .i64 (x.c 3)) (.int .i64 (x.c 4)) (.int .i64 (x.c 5))
          have hS7 : (((((((((w6.setCell ⟨gy, 0, none⟩ (.int .i64 (am 1 a0 1024))).setCell ⟨gy, 1, none⟩ (.int .i64 (am 1 a1 16777216))).setCell ⟨gy, 2, none⟩ (.slice va l.length vc)).setCell ⟨gy, 3, none⟩ (.int .i64 (x.c 0))).setCell ⟨gy, 4, none⟩ (.int .i64 (x.c 1))).setCell ⟨gy, 5, none⟩ (.int .i64 (x.c 2))).setCell ⟨gy, 6, none⟩ (.int .i64 (x.c 3))).setCell ⟨gy, 7, none⟩ (.int .i64 (x.c 4))).setCell ⟨gy, 8, none⟩ (.int .i64 (x.c 5))).cell? ⟨gx, 0, none⟩ = some (.int .i64 (am 1 a0 1024)) ∧ (((((((((w6.setCell ⟨gy, 0, none⟩ (.int .i64 (am 1 a0 1024))).setCell ⟨gy, 1, none⟩ (.int .i64 (am 1 a1 16777216))).setCell ⟨gy, 2, none⟩ (.slice va l.length vc)).setCell ⟨gy, 3, none⟩ (.int .i64 (x.c 0))).setCell ⟨gy, 4, none⟩ (.int .i64 (x.c 1))).setCell ⟨gy, 5, none⟩ (.int .i64 (x.c 2))).setCell ⟨gy, 6, none⟩ (.int .i64 (x.c 3))).setCell ⟨gy, 7, none⟩ (.int .i64 (x.c 4))).setCell ⟨gy, 8, none⟩ (.int .i64 (x.c 5))).cell? ⟨gx, 1, none⟩ = some (.int .i64 (am 1 a1 16777216)) ∧ (((((((((w6.setCell ⟨gy, 0, none⟩ (.int .i64 (am 1 a0 1024))).setCell ⟨gy, 1, none⟩ (.int .i64 (am 1 a1 16777216))).setCell ⟨gy, 2, none⟩ (.slice va l.length vc)).setCell ⟨gy, 3, none⟩ (.int .i64 (x.c 0))).setCell ⟨gy, 4, none⟩ (.int .i64 (x.c 1))).setCell ⟨gy, 5, none⟩ (.int .i64 (x.c 2))).setCell ⟨gy, 6, none⟩ (.int .i64 (x.c 3))).setCell ⟨gy, 7, none⟩ (.int .i64 (x.c 4))).setCell ⟨gy, 8, none⟩ (.int .i64 (x.c 5))).cell? ⟨gx, 2, none⟩ = some (.slice va l.length vc) ∧ (((((((((w6.setCell ⟨gy, 0, none⟩ (.int .i64 (am 1 a0 1024))).setCell ⟨gy, 1, none⟩ (.int .i64 (am 1 a1 16777216))).setCell ⟨gy, 2, none⟩ (.slice va l.length vc)).setCell ⟨gy, 3, none⟩ (.int .i64 (x.c 0))).setCell ⟨gy, 4, none⟩ (.int .i64 (x.c 1))).setCell ⟨gy, 5, none⟩ (.int .i64 (x.c 2))).setCell ⟨gy, 6, none⟩ (.int .i64 (x.c 3))).setCell ⟨gy, 7, none⟩ (.int .i64 (x.c 4))).setCell ⟨gy, 8, none⟩ (.int .i64 (x.c 5))).cell? ⟨gx, 3, none⟩ = some (.int .i64 (x.c 0)) ∧ (((((((((w6.setCell ⟨gy, 0, none⟩ (.int .i64 (am 1 a0 1024))).setCell ⟨gy, 1, none⟩ (.int .i64 (am 1 a1 16777216))).setCell ⟨gy, 2, none⟩ (.slice va l.length vc)).setCell ⟨gy, 3, none⟩ (.int .i64 (x.c 0))).setCell ⟨gy, 4, none⟩ (.int .i64 (x.c 1))).setCell ⟨gy, 5, none⟩ (.int .i64 (x.c 2))).setCell ⟨gy, 6, none⟩ (.int .i64 (x.c 3))).setCell ⟨gy, 7, none⟩ (.int .i64 (x.c 4))).setCell ⟨gy, 8, none⟩ (.int .i64 (x.c 5))).cell? ⟨gx, 4, none⟩ = some (.int .i64 (x.c 1)) ∧ (((((((((w6.setCell ⟨gy, 0, none⟩ (.int .i64 (am 1 a0 1024))).setCell ⟨gy, 1, none⟩ (.int .i64 (am 1 a1 16777216))).setCell ⟨gy, 2, none⟩ (.slice va l.length vc)).setCell ⟨gy, 3, none⟩ (.int .i64 (x.c 0))).setCell ⟨gy, 4, none⟩ (.int .i64 (x.c 1))).setCell ⟨gy, 5, none⟩ (.int .i64 (x.c 2))).setCell ⟨gy, 6, none⟩ (.int .i64 (x.c 3))).setCell ⟨gy, 7, none⟩ (.int .i64 (x.c 4))).setCell ⟨gy, 8, none⟩ (.int .i64 (x.c 5))).cell? ⟨gx, 5, none⟩ = some (.int .i64 (x.c 2)) ∧ (((((((((w6.setCell ⟨gy, 0, none⟩ (.int .i64 (am 1 a0 1024))).setCell ⟨gy, 1, none⟩ (.int .i64 (am 1 a1 16777216))).setCell ⟨gy, 2, none⟩ (.slice va l.length vc)).setCell ⟨gy, 3, none⟩ (.int .i64 (x.c 0))).setCell ⟨gy, 4, none⟩ (.int .i64 (x.c 1))).setCell ⟨gy, 5, none⟩ (.int .i64 (x.c 2))).setCell ⟨gy, 6, none⟩ (.int .i64 (x.c 3))).setCell ⟨gy, 7, none⟩ (.int .i64 (x.c 4))).setCell ⟨gy, 8, none⟩ (.int .i64 (x.c 5))).cell? ⟨gx, 6, none⟩ = some (.int .i64 (x.c 3)) ∧ (((((((((w6.setCell ⟨gy, 0, none⟩ (.int .i64 (am 1 a0 1024))).setCell ⟨gy, 1, none⟩ (.int .i64 (am 1 a1 16777216))).setCell ⟨gy, 2, none⟩ (.slice va l.length vc)).setCell ⟨gy, 3, none⟩ (.int .i64 (x.c 0))).setCell ⟨gy, 4, none⟩ (.int .i64 (x.c 1))).setCell ⟨gy, 5, none⟩ (.int .i64 (x.c 2))).setCell ⟨gy, 6, none⟩ (.int .i64 (x.c 3))).setCell ⟨gy, 7, none⟩ (.int .i64 (x.c 4))).setCell ⟨gy, 8, none⟩ (.int .i64 (x.c 5))).cell? ⟨gx, 7, none⟩ = some (.int .i64 (x.c 4)) ∧ (((((((((w6.setCell ⟨gy, 0, none⟩ (.int .i64 (am 1 a0 1024))).setCell ⟨gy, 1, none⟩ (.int .i64 (am 1 a1 16777216))).setCell ⟨gy, 2, none⟩ (.slice va l.length vc)).setCell ⟨gy, 3, none⟩ (.int .i64 (x.c 0))).setCell ⟨gy, 4, none⟩ (.int .i64 (x.c 1))).setCell ⟨gy, 5, none⟩ (.int .i64 (x.c 2))).setCell ⟨gy, 6, none⟩ (.int .i64 (x.c 3))).setCell ⟨gy, 7, none⟩ (.int .i64 (x.c 4))).setCell ⟨gy, 8, none⟩ (.int .i64 (x.c 5))).cell? ⟨gx, 8, none⟩ = some (.int .i64 (x.c 5)) := AtQ.cells9 (hx6.at9.only hne ho)
          obtain ⟨_, _, _, _, _, _, _, _, _⟩ := AtQ.cells9 hY
          obtain ⟨_, _, _, _, _, _, _, _, _⟩ := AtQ.frees9 hY
          refine ordM_ready [5] (by kernel_rfl) (by simp) ?_
          refine AllReadyM.cons rfl (fun K hK => ?_) AllReadyM.nil
          go_simp
          refine hK.out _ _ (fun _ => hS7) ?_
          clear hK K
          (try simp only [Act.put, List.setIfInBounds_toArray, List.set_cons_zero, List.set_cons_succ])
          refine ordM_done (by kernel_rfl) ?_ _
          refine NoPanic.normal ?_
          have hB7 : NeBoth (((((((((w6.setCell ⟨gy, 0, none⟩ (.int .i64 (am 1 a0 1024))).setCell ⟨gy, 1, none⟩ (.int .i64 (am 1 a1 16777216))).setCell ⟨gy, 2, none⟩ (.slice va l.length vc)).setCell ⟨gy, 3, none⟩ (.int .i64 (x.c 0))).setCell ⟨gy, 4, none⟩ (.int .i64 (x.c 1))).setCell ⟨gy, 5, none⟩ (.int .i64 (x.c 2))).setCell ⟨gy, 6, none⟩ (.int .i64 (x.c 3))).setCell ⟨gy, 7, none⟩ (.int .i64 (x.c 4))).setCell ⟨gy, 8, none⟩ (.int .i64 (x.c 5))) a0 a1 B gn gx n x (.slice va l.length vc) l k := ⟨hx6.nin.only hY ho (by decide) (by decide), hx6.eq, hx6.row.keep (by rw [ho.size]; exact Nat.le_refl _) (fun q cs q1 q2 => ho.block q (fun e => by
            subst e
            exact blkQ_ne (T := 84) (T' := 34) q2 hY (by decide) rfl)), hx6.at9.only hne ho, hx6.lm, hx6.lb, hx6.nk, hx6.len, hx6.ct⟩
          have hC7 : NeBoth (((((((((w6.setCell ⟨gy, 0, none⟩ (.int .i64 (am 1 a0 1024))).setCell ⟨gy, 1, none⟩ (.int .i64 (am 1 a1 16777216))).setCell ⟨gy, 2, none⟩ (.slice va l.length vc)).setCell ⟨gy, 3, none⟩ (.int .i64 (x.c 0))).setCell ⟨gy, 4, none⟩ (.int .i64 (x.c 1))).setCell ⟨gy, 5, none⟩ (.int .i64 (x.c 2))).setCell ⟨gy, 6, none⟩ (.int .i64 (x.c 3))).setCell ⟨gy, 7, none⟩ (.int .i64 (x.c 4))).setCell ⟨gy, 8, none⟩ (.int .i64 (x.c 5))) a0 a1 B2 gc gy nc ⟨x.m, x.b, mpc, VV, x.G, x.c⟩ (.slice va l.length vc) l (k + 1) := ⟨hIc6.only hY ho (by decide) (by decide), ⟨hx6.eq.g, hx6.eq.tx⟩, hB7.row, hZ, hx6.lm, hx6.lb, by have := hx6.nk; omega, by have := hx6.len; omega, fun i => by have := hx6.ct i; exact ⟨this.1, by show x.c i ≤ ((k + 1 : Nat) : Int); omega⟩⟩
          have hltd := hBd.at9.lt
          have hW7 := (hWd.trans (hb6.mono (by omega))).trans (ho.below (by omega))
          have hgyg : g ≤ gy := by omega
          have hgB2 : g ≤ B2 := by have := hfar gn (.inl rfl); have := hx6.nin.bs; omega
          generalize (((((((((w6.setCell ⟨gy, 0, none⟩ (.int .i64 (am 1 a0 1024))).setCell ⟨gy, 1, none⟩ (.int .i64 (am 1 a1 16777216))).setCell ⟨gy, 2, none⟩ (.slice va l.length vc)).setCell ⟨gy, 3, none⟩ (.int .i64 (x.c 0))).setCell ⟨gy, 4, none⟩ (.int .i64 (x.c 1))).setCell ⟨gy, 5, none⟩ (.int .i64 (x.c 2))).setCell ⟨gy, 6, none⟩ (.int .i64 (x.c 3))).setCell ⟨gy, 7, none⟩ (.int .i64 (x.c 4))).setCell ⟨gy, 8, none⟩ (.int .i64 (x.c 5))) = w7 at *
          generalize hx2 : (⟨x.m, x.b, mpc, VV, x.G, x.c⟩ : NE) = x20 at hC7
          clear hS7 hx6 hZ ho hY hIc6 hb6 hBd hWd hSd hx2
          go_wp2_with fail
          go_loopw [9, 13] (fun s9 s13 wr => ∃ (k2 n2 : Nat) (x2 : NE) (v2 : Value) (l2 : List OD), k2 ≤ len2 ∧ k2 ≤ 15 ∧ s13 = .int .i64 k2 ∧ Hid (NeBoth wr a0 a1 B gn gx n x (.slice va l.length vc) l k) ∧ Hid (NeBoth wr a0 a1 B2 gc gy n2 x2 v2 l2 (k + 1 + k2)) ∧ Hid (Below g w wr)) (fun _ s13 _ => 15 - (intOf s13).toNat)
          case atStart => exact ⟨0, nc, x20, .slice va l.length vc, l, Nat.zero_le _, by omega, rfl, Lib.hid hB7, Lib.hid hC7, Lib.hid hW7⟩
          case round =>
            obtain ⟨k2, n2, x2, v2, l2, hk2, hk15, rfl, HB, HC, HW⟩ := hrel
            clear hB7 hC7 hW7
            by_cases hlt2 : k2 < len2 ∧ k2 < 15
            · obtain ⟨hlt2, hlt15⟩ := hlt2
              obtain ⟨ab, off, rfl, hab, kd, wy, pt, ix, bt, mk, d, hwf, hmk, wds, hact⟩ := HACT2.out k2 hlt2 wr HW.out
              have hdk : decide ((k2 : Int) < (len2 : Int)) = true := decide_eq_true (by omega)
              have hdk2 : decide ((k2 : Int) < 15) = true := decide_eq_true (by omega)
              have hki : (k2 : Int) < len2 := by omega
              go_upto_region 20 with fail
              have hBd := HC.out.drew
              have hSd : wr.drew.cell? ⟨ab, off + k2 * 7, none⟩ = some (.int .i64 kd) ∧ wr.drew.cell? ⟨ab, off + k2 * 7 + 1, none⟩ = some (.int .i64 wy) ∧ wr.drew.cell? ⟨ab, off + k2 * 7 + 2, none⟩ = some (.int .i64 pt) ∧ wr.drew.cell? ⟨ab, off + k2 * 7 + 3, none⟩ = some (.int .i64 ix) ∧ wr.drew.cell? ⟨ab, off + k2 * 7 + 4, none⟩ = some (.int .i64 bt) ∧ wr.drew.cell? ⟨ab, off + k2 * 7 + 5, none⟩ = some (.int .u32 (mk : Int)) ∧ wr.drew.cell? ⟨ab, off + k2 * 7 + 6, none⟩ = some (.string d) := hact
              refine wp_region_noPanic ?_
              refine ordM_begin (fun W : World => W.cell? ⟨ab, off + k2 * 7, none⟩ = some (.int .i64 kd) ∧ W.cell? ⟨ab, off + k2 * 7 + 1, none⟩ = some (.int .i64 wy) ∧ W.cell? ⟨ab, off + k2 * 7 + 2, none⟩ = some (.int .i64 pt) ∧ W.cell? ⟨ab, off + k2 * 7 + 3, none⟩ = some (.int .i64 ix) ∧ W.cell? ⟨ab, off + k2 * 7 + 4, none⟩ = some (.int .i64 bt) ∧ W.cell? ⟨ab, off + k2 * 7 + 5, none⟩ = some (.int .u32 (mk : Int)) ∧ W.cell? ⟨ab, off + k2 * 7 + 6, none⟩ = some (.string d)) (fun i => false) (by kernel_rfl) hSd ?_
              have hWd := HW.out.drew
              have hBs := HB.out.drew
              generalize wr.drew = wd at *
              have hB9 : NeBoth wd a0 a1 _ _ _ _ _ _ _ _ := hBd
              obtain ⟨_, _, _, _, _, _, _, _, _⟩ := AtQ.cells9 hBd.at9
              refine ordM_take 0 ?vq35 rfl (by kernel_rfl) (by kernel_rfl) (by kernel_rfl) (by kernel_rfl) (fun _ _ _ h => h) (by rfl) ?hq35 (by assumption) ?rq35
              case hq35 => (intro W hSw; (try dsimp only at hSw); go_simp <;> with_reducible rfl)
              (try simp only [Act.put, List.setIfInBounds_toArray, List.set_cons_zero, List.set_cons_succ])
              refine ordM_take 2 ?vq36 rfl (by kernel_rfl) (by kernel_rfl) (by kernel_rfl) (by kernel_rfl) (fun _ _ _ h => h) (by rfl) ?hq36 (by assumption) ?rq36
              case hq36 => (intro W hSw; (try dsimp only at hSw); go_simp <;> with_reducible rfl)
              (try simp only [Act.put, List.setIfInBounds_toArray, List.set_cons_zero, List.set_cons_succ])
              refine ordM_take 3 ?vq37 rfl (by kernel_rfl) (by kernel_rfl) (by kernel_rfl) (by kernel_rfl) (fun _ _ _ h => h) (by rfl) ?hq37 (by assumption) ?rq37
              case hq37 => (intro W hSw; (try dsimp only at hSw); go_simp <;> with_reducible rfl)
              (try simp only [Act.put, List.setIfInBounds_toArray, List.set_cons_zero, List.set_cons_succ])
              refine ordM_take 4 ?vq38 rfl (by kernel_rfl) (by kernel_rfl) (by kernel_rfl) (by kernel_rfl) (fun _ _ _ h => h) (by rfl) ?hq38 (by assumption) ?rq38
              case hq38 => (intro W hSw; (try dsimp only at hSw); go_simp <;> with_reducible rfl)
              (try simp only [Act.put, List.setIfInBounds_toArray, List.set_cons_zero, List.set_cons_succ])
              refine ordM_take 5 ?vq39 rfl (by kernel_rfl) (by kernel_rfl) (by kernel_rfl) (by kernel_rfl) (fun _ _ _ h => h) (by rfl) ?hq39 (by assumption) ?rq39
              case hq39 => (intro W hSw; (try dsimp only at hSw); go_simp <;> with_reducible rfl)
              (try simp only [Act.put, List.setIfInBounds_toArray, List.set_cons_zero, List.set_cons_succ])
              refine ordM_ready [1] (by kernel_rfl) (by simp) ?_
              refine AllReadyM.cons rfl (fun K hK => ?_) AllReadyM.nil
              go_simp
              refine hK.out _ _ (fun _ => hSd) ?_
              clear hK K
              (try simp only [Act.put, List.setIfInBounds_toArray, List.set_cons_zero, List.set_cons_succ])
              refine ordM_ready [6] (by kernel_rfl) (by simp) ?_
              refine AllReadyM.cons rfl (fun K hK => ?_) AllReadyM.nil
              go_simp
              go_at_call 9
              refine (hBd.do_any (by omega) kd wy pt ix bt mk hmk d hwf wds).mono ?_
              rintro e w5 ⟨x5, v5, l5, rfl, hD⟩
              obtain ⟨va, vc, rfl⟩ := hD.row.formG
              unfold neBox
              (try go_wp2_with fail)
              have hA5 := hBd.at9.nkeep hBd.nin hD.keep (by decide) (by decide)
              have hk5 := hD.keep.below hBd.nin
              have hS5 : w5.cell? ⟨ab, off + k2 * 7, none⟩ = some (.int .i64 kd) ∧ w5.cell? ⟨ab, off + k2 * 7 + 1, none⟩ = some (.int .i64 wy) ∧ w5.cell? ⟨ab, off + k2 * 7 + 2, none⟩ = some (.int .i64 pt) ∧ w5.cell? ⟨ab, off + k2 * 7 + 3, none⟩ = some (.int .i64 ix) ∧ w5.cell? ⟨ab, off + k2 * 7 + 4, none⟩ = some (.int .i64 bt) ∧ w5.cell? ⟨ab, off + k2 * 7 + 5, none⟩ = some (.int .u32 (mk : Int)) ∧ w5.cell? ⟨ab, off + k2 * 7 + 6, none⟩ = some (.string d) := cells7_keep hSd (hk5.block ab (by omega))
              refine hK.out _ _ (fun _ => hS5) ?_
              clear hK K
              (try simp only [Act.put, List.setIfInBounds_toArray, List.set_cons_zero, List.set_cons_succ])
              refine ordM_take 7 ?vq40 rfl (by kernel_rfl) (by kernel_rfl) (by kernel_rfl) (by kernel_rfl) (fun _ _ _ h => h) (by rfl) ?hq40 (by assumption) ?rq40
              case hq40 => (intro W hSw; (try dsimp only at hSw); go_simp <;> with_reducible rfl)
              (try simp only [Act.put, List.setIfInBounds_toArray, List.set_cons_zero, List.set_cons_succ])
              refine ordM_take 8 ?vq41 rfl (by kernel_rfl) (by kernel_rfl) (by kernel_rfl) (by kernel_rfl) (fun _ _ _ h => h) (by rfl) ?hq41 (by assumption) ?rq41
              case hq41 => (intro W hSw; (try dsimp only at hSw); go_simp <;> with_reducible rfl)
              (try simp only [Act.put, List.setIfInBounds_toArray, List.set_cons_zero, List.set_cons_succ])
              refine ordM_take 9 ?vq42 rfl (by kernel_rfl) (by kernel_rfl) (by kernel_rfl) (by kernel_rfl) (fun _ _ _ h => h) (by rfl) ?hq42 (by assumption) ?rq42
              case hq42 => (intro W hSw; (try dsimp only at hSw); go_simp <;> with_reducible rfl)
              (try simp only [Act.put, List.setIfInBounds_toArray, List.set_cons_zero, List.set_cons_succ])
              have ho := put9_only w5 gy (.int .i64 (am 1 a0 1024)) (.int .i64 (am 1 a1 16777216)) (.slice va l5.length vc) (.int .i64 (x5.c 0)) (.int .i64 (x5.c 1)) (.int .i64 (x5.c 2)) (.int .i64 (x5.c 3)) (.int .i64 (x5.c 4)) (.int .i64 (x5.c 5))
              have hZ := atQ9_put hA5 (.int .i64 (am 1 a0 1024)) (.int .i64 (am 1 a1 16777216)) (.slice va l5.length vc) (.int .i64 (x5.c 0)) (.int .i64 (x5.c 1)) (.int .i64 (x5.c 2)) (.int .i64 (x5.c 3)) (.int .i64 (x5.c 4)) (.int .i64 (x5.c 5))
              have hS8 : (((((((((w5.setCell ⟨gy, 0, none⟩ (.int .i64 (am 1 a0 1024))).setCell ⟨gy, 1, none⟩ (.int .i64 (am 1 a1 16777216))).setCell ⟨gy, 2, none⟩ (.slice va l5.length vc)).setCell ⟨gy, 3, none⟩ (.int .i64 (x5.c 0))).setCell ⟨gy, 4, none⟩ (.int .i64 (x5.c 1))).setCell ⟨gy, 5, none⟩ (.int .i64 (x5.c 2))).setCell ⟨gy, 6, none⟩ (.int .i64 (x5.c 3))).setCell ⟨gy, 7, none⟩ (.int .i64 (x5.c 4))).setCell ⟨gy, 8, none⟩ (.int .i64 (x5.c 5))).cell? ⟨ab, off + k2 * 7, none⟩ = some (.int .i64 kd) ∧ (((((((((w5.setCell ⟨gy, 0, none⟩ (.int .i64 (am 1 a0 1024))).setCell ⟨gy, 1, none⟩ (.int .i64 (am 1 a1 16777216))).setCell ⟨gy, 2, none⟩ (.slice va l5.length vc)).setCell ⟨gy, 3, none⟩ (.int .i64 (x5.c 0))).setCell ⟨gy, 4, none⟩ (.int .i64 (x5.c 1))).setCell ⟨gy, 5, none⟩ (.int .i64 (x5.c 2))).setCell ⟨gy, 6, none⟩ (.int .i64 (x5.c 3))).setCell ⟨gy, 7, none⟩ (.int .i64 (x5.c 4))).setCell ⟨gy, 8, none⟩ (.int .i64 (x5.c 5))).cell? ⟨ab, off + k2 * 7 + 1, none⟩ = some (.int .i64 wy) ∧ (((((((((w5.setCell ⟨gy, 0, none⟩ (.int .i64 (am 1 a0 1024))).setCell ⟨gy, 1, none⟩ (.int .i64 (am 1 a1 16777216))).setCell ⟨gy, 2, none⟩ (.slice va l5.length vc)).setCell ⟨gy, 3, none⟩ (.int .i64 (x5.c 0))).setCell ⟨gy, 4, none⟩ (.int .i64 (x5.c 1))).setCell ⟨gy, 5, none⟩ (.int .i64 (x5.c 2))).setCell ⟨gy, 6, none⟩ (.int .i64 (x5.c 3))).setCell ⟨gy, 7, none⟩ (.int .i64 (x5.c 4))).setCell ⟨gy, 8, none⟩ (.int .i64 (x5.c 5))).cell? ⟨ab, off + k2 * 7 + 2, none⟩ = some (.int .i64 pt) ∧ (((((((((w5.setCell ⟨gy, 0, none⟩ (.int .i64 (am 1 a0 1024))).setCell ⟨gy, 1, none⟩ (.int .i64 (am 1 a1 16777216))).setCell ⟨gy, 2, none⟩ (.slice va l5.length vc)).setCell ⟨gy, 3, none⟩ (.int .i64 (x5.c 0))).setCell ⟨gy, 4, none⟩ (.int .i64 (x5.c 1))).setCell ⟨gy, 5, none⟩ (.int .i64 (x5.c 2))).setCell ⟨gy, 6, none⟩ (.int .i64 (x5.c 3))).setCell ⟨gy, 7, none⟩ (.int .i64 (x5.c 4))).setCell ⟨gy, 8, none⟩ (.int .i64 (x5.c 5))).cell? ⟨ab, off + k2 * 7 + 3, none⟩ = some (.int .i64 ix) ∧ (((((((((w5.setCell ⟨gy, 0, none⟩ (.int .i64 (am 1 a0 1024))).setCell ⟨gy, 1, none⟩ (.int .i64 (am 1 a1 16777216))).setCell ⟨gy, 2, none⟩ (.slice va l5.length vc)).setCell ⟨gy, 3, none⟩ (.int .i64 (x5.c 0))).setCell ⟨gy, 4, none⟩ (.int .i64 (x5.c 1))).setCell ⟨gy, 5, none⟩ (.int .i64 (x5.c 2))).setCell ⟨gy, 6, none⟩ (.int .i64 (x5.c 3))).setCell ⟨gy, 7, none⟩ (.int .i64 (x5.c 4))).setCell ⟨gy, 8, none⟩ (.int .i64 (x5.c 5))).cell? ⟨ab, off + k2 * 7 + 4, none⟩ = some (.int .i64 bt) ∧ (((((((((w5.setCell ⟨gy, 0, none⟩ (.int .i64 (am 1 a0 1024))).setCell ⟨gy, 1, none⟩ (.int .i64 (am 1 a1 16777216))).setCell ⟨gy, 2, none⟩ (.slice va l5.length vc)).setCell ⟨gy, 3, none⟩ (.int .i64 (x5.c 0))).setCell ⟨gy, 4, none⟩ (.int .i64 (x5.c 1))).setCell ⟨gy, 5, none⟩ (.int .i64 (x5.c 2))).setCell ⟨gy, 6, none⟩ (.int .i64 (x5.c 3))).setCell ⟨gy, 7, none⟩ (.int .i64 (x5.c 4))).setCell ⟨gy, 8, none⟩ (.int .i64 (x5.c 5))).cell? ⟨ab, off + k2 * 7 + 5, none⟩ = some (.int .u32 (mk : Int)) ∧ (((((((((w5.setCell ⟨gy, 0, none⟩ (.int .i64 (am 1 a0 1024))).setCell ⟨gy, 1, none⟩ (.int .i64 (am 1 a1 16777216))).setCell ⟨gy, 2, none⟩ (.slice va l5.length vc)).setCell ⟨gy, 3, none⟩ (.int .i64 (x5.c 0))).setCell ⟨gy, 4, none⟩ (.int .i64 (x5.c 1))).setCell ⟨gy, 5, none⟩ (.int .i64 (x5.c 2))).setCell ⟨gy, 6, none⟩ (.int .i64 (x5.c 3))).setCell ⟨gy, 7, none⟩ (.int .i64 (x5.c 4))).setCell ⟨gy, 8, none⟩ (.int .i64 (x5.c 5))).cell? ⟨ab, off + k2 * 7 + 6, none⟩ = some (.string d) := cells7_keep hS5 (ho.block ab (by omega))
              obtain ⟨_, _, _, _, _, _, _, _, _⟩ := AtQ.cells9 hA5
              obtain ⟨_, _, _, _, _, _, _, _, _⟩ := AtQ.frees9 hA5
              refine ordM_ready [10] (by kernel_rfl) (by simp) ?_
              refine AllReadyM.cons rfl (fun K hK => ?_) AllReadyM.nil
              go_simp
              refine hK.out _ _ (fun _ => hS8) ?_
              clear hK K
              (try simp only [Act.put, List.setIfInBounds_toArray, List.set_cons_zero, List.set_cons_succ])
              refine ordM_take 11 ?vq43 rfl (by kernel_rfl) (by kernel_rfl) (by kernel_rfl) (by kernel_rfl) (fun _ _ _ h => h) (by rfl) ?hq43 (by assumption) ?rq43
              case hq43 => (intro W hSw; (try dsimp only at hSw); go_simp <;> with_reducible rfl)
              (try simp only [Act.put, List.setIfInBounds_toArray, List.set_cons_zero, List.set_cons_succ])
              refine ordM_done (by kernel_rfl) ?_ _
              refine NoPanic.normal ?_
              have hC8 := hBd.next hD ho hZ
              have hB8s := hBs.beside hBd hfar hne hD ho
              have hW8 := (hWd.trans (hk5.mono (by omega))).trans (ho.below (by omega))
              generalize (((((((((w5.setCell ⟨gy, 0, none⟩ (.int .i64 (am 1 a0 1024))).setCell ⟨gy, 1, none⟩ (.int .i64 (am 1 a1 16777216))).setCell ⟨gy, 2, none⟩ (.slice va l5.length vc)).setCell ⟨gy, 3, none⟩ (.int .i64 (x5.c 0))).setCell ⟨gy, 4, none⟩ (.int .i64 (x5.c 1))).setCell ⟨gy, 5, none⟩ (.int .i64 (x5.c 2))).setCell ⟨gy, 6, none⟩ (.int .i64 (x5.c 3))).setCell ⟨gy, 7, none⟩ (.int .i64 (x5.c 4))).setCell ⟨gy, 8, none⟩ (.int .i64 (x5.c 5))) = w8 at *
              clear hS8 hS5 hSd hact hA5 hk5 hD hZ ho hBd hWd hB9
              go_wp2_with fail
              go_roundw
              case rel => exact ⟨k2 + 1, n2 + 1, x5, _, l5, by omega, by omega, by go_num, Lib.hid hB8s, Lib.hid hC8, Lib.hid hW8⟩
              case measure => simp [intOf]; omega
            · by_cases hq2 : k2 < len2
              · have hd21 : decide ((k2 : Int) < (len2 : Int)) = true := decide_eq_true (by omega)
                have hd22 : decide ((k2 : Int) < 15) = false := decide_eq_false (by omega)
                obtain ⟨vb, vd, rfl⟩ := HC.out.row.formG
                go_wp2_with fail
                refine (neClip_any a0 a1 _).mono ?_
                rintro e wk ⟨rfl, hbk⟩
                have hK := atQ_new 29 wk wk.heap.size #[.int .i64 (am 1 a0 1024), .int .i64 (am 1 a1 16777216)] rfl
                have hal : Below wk.heap.size wk (wk.alloc (.cells #[.int .i64 (am 1 a0 1024), .int .i64 (am 1 a1 16777216)] 29)) := (Below.refl _ _).alloc (Nat.le_refl _) _
                have hbl := hbk.trans (hal.mono hbk.size)
                have hB9 := HB.out.later hbl
                have hC9 := HC.out.later hbl
                have hgr : g ≤ wr.heap.size := by have := HB.out.at9.lt; omega
                have hW9 := HW.out.trans (hbl.mono hgr)
                go_upto_region 24 with fail
                generalize (wk.alloc (.cells #[.int .i64 (am 1 a0 1024), .int .i64 (am 1 a1 16777216)] 29)) = w9 at *
                generalize wk.heap.size = gk at *
                clear hal hbl hbk HB HC HW
                obtain ⟨_, _, _, _, _, _, _, _, _⟩ := AtQ.cells9 hB9.at9
                have HISX := Lib.hid (hB9.is_any (by omega))
                unfold neBox at HISX
                go_wp2_with fail
                refine HISX.out.mono ?_
                rintro e wm ⟨rfl, hbm⟩
                have hCm := hC9.later hbm
                have hBm := hB9.later hbm
                have hKm := hK.later hbm
                have hgm : g ≤ w9.heap.size := by have := hB9.at9.lt; omega
                have hWm := hW9.trans (hbm.mono hgm)
                obtain ⟨_, _, _, _, _, _, _, _, _⟩ := AtQ.cells9 hCm.at9
                have HISY := Lib.hid (hCm.is_any (by omega))
                unfold neBox at HISY
                go_wp2_with fail
                refine HISY.out.mono ?_
                rintro e wn ⟨rfl, hbn⟩
                obtain ⟨_, _, _, _, _, _, _, _, _⟩ := AtQ.cells9 (hBm.later hbn).at9
                obtain ⟨_, _⟩ := (hKm.later hbn).cells2
                have hgn : g ≤ wm.heap.size := by have := hBm.at9.lt; omega
                have hWn := hWm.trans (hbn.mono hgn)
                go_wp2_with fail
                go_ret
                exact ⟨rfl, by rw [HG.out]; exact hWn⟩
              · have hd21 : decide ((k2 : Int) < (len2 : Int)) = false := decide_eq_false (by omega)
                obtain ⟨vb, vd, rfl⟩ := HC.out.row.formG
                go_wp2_with fail
                refine (neClip_any a0 a1 _).mono ?_
                rintro e wk ⟨rfl, hbk⟩
                have hK := atQ_new 29 wk wk.heap.size #[.int .i64 (am 1 a0 1024), .int .i64 (am 1 a1 16777216)] rfl
                have hal : Below wk.heap.size wk (wk.alloc (.cells #[.int .i64 (am 1 a0 1024), .int .i64 (am 1 a1 16777216)] 29)) := (Below.refl _ _).alloc (Nat.le_refl _) _
                have hbl := hbk.trans (hal.mono hbk.size)
                have hB9 := HB.out.later hbl
                have hC9 := HC.out.later hbl
                have hgr : g ≤ wr.heap.size := by have := HB.out.at9.lt; omega
                have hW9 := HW.out.trans (hbl.mono hgr)
                go_upto_region 24 with fail
                generalize (wk.alloc (.cells #[.int .i64 (am 1 a0 1024), .int .i64 (am 1 a1 16777216)] 29)) = w9 at *
                generalize wk.heap.size = gk at *
                clear hal hbl hbk HB HC HW
                obtain ⟨_, _, _, _, _, _, _, _, _⟩ := AtQ.cells9 hB9.at9
                have HISX := Lib.hid (hB9.is_any (by omega))
                unfold neBox at HISX
                go_wp2_with fail
                refine HISX.out.mono ?_
                rintro e wm ⟨rfl, hbm⟩
                have hCm := hC9.later hbm
                have hBm := hB9.later hbm
                have hKm := hK.later hbm
                have hgm : g ≤ w9.heap.size := by have := hB9.at9.lt; omega
                have hWm := hW9.trans (hbm.mono hgm)
                obtain ⟨_, _, _, _, _, _, _, _, _⟩ := AtQ.cells9 hCm.at9
                have HISY := Lib.hid (hCm.is_any (by omega))
                unfold neBox at HISY
                go_wp2_with fail
                refine HISY.out.mono ?_
                rintro e wn ⟨rfl, hbn⟩
                obtain ⟨_, _, _, _, _, _, _, _, _⟩ := AtQ.cells9 (hBm.later hbn).at9
                obtain ⟨_, _⟩ := (hKm.later hbn).cells2
                have hgn : g ≤ wm.heap.size := by have := hBm.at9.lt; omega
                have hWn := hWm.trans (hbn.mono hgn)
                go_wp2_with fail
                go_ret
                exact ⟨rfl, by rw [HG.out]; exact hWn⟩
        · go_simp
          have hal : Below wd.heap.size wd (wd.alloc (.cells #[.int .i64 0, .int .i64 0, .slice none 0 0, .int .i64 0, .int .i64 0, .int .i64 0, .int .i64 0, .int .i64 0, .int .i64 0] 34)) := (Below.refl _ _).alloc (Nat.le_refl _) _
          have hS5 : (wd.alloc (.cells #[.int .i64 0, .int .i64 0, .slice none 0 0, .int .i64 0, .int .i64 0, .int .i64 0, .int .i64 0, .int .i64 0, .int .i64 0] 34)).cell? ⟨gx, 0, none⟩ = some (.int .i64 (am 1 a0 1024)) ∧ (wd.alloc (.cells #[.int .i64 0, .int .i64 0, .slice none 0 0, .int .i64 0, .int .i64 0, .int .i64 0, .int .i64 0, .int .i64 0, .int .i64 0] 34)).cell? ⟨gx, 1, none⟩ = some (.int .i64 (am 1 a1 16777216)) ∧ (wd.alloc (.cells #[.int .i64 0, .int .i64 0, .slice none 0 0, .int .i64 0, .int .i64 0, .int .i64 0, .int .i64 0, .int .i64 0, .int .i64 0] 34)).cell? ⟨gx, 2, none⟩ = some (.slice va l.length vc) ∧ (wd.alloc (.cells #[.int .i64 0, .int .i64 0, .slice none 0 0, .int .i64 0, .int .i64 0, .int .i64 0, .int .i64 0, .int .i64 0, .int .i64 0] 34)).cell? ⟨gx, 3, none⟩ = some (.int .i64 (x.c 0)) ∧ (wd.alloc (.cells #[.int .i64 0, .int .i64 0, .slice none 0 0, .int .i64 0, .int .i64 0, .int .i64 0, .int .i64 0, .int .i64 0, .int .i64 0] 34)).cell? ⟨gx, 4, none⟩ = some (.int .i64 (x.c 1)) ∧ (wd.alloc (.cells #[.int .i64 0, .int .i64 0, .slice none 0 0, .int .i64 0, .int .i64 0, .int .i64 0, .int .i64 0, .int .i64 0, .int .i64 0] 34)).cell? ⟨gx, 5, none⟩ = some (.int .i64 (x.c 2)) ∧ (wd.alloc (.cells #[.int .i64 0, .int .i64 0, .slice none 0 0, .int .i64 0, .int .i64 0, .int .i64 0, .int .i64 0, .int .i64 0, .int .i64 0] 34)).cell? ⟨gx, 6, none⟩ = some (.int .i64 (x.c 3)) ∧ (wd.alloc (.cells #[.int .i64 0, .int .i64 0, .slice none 0 0, .int .i64 0, .int .i64 0, .int .i64 0, .int .i64 0, .int .i64 0, .int .i64 0] 34)).cell? ⟨gx, 7, none⟩ = some (.int .i64 (x.c 4)) ∧ (wd.alloc (.cells #[.int .i64 0, .int .i64 0, .slice none 0 0, .int .i64 0, .int .i64 0, .int .i64 0, .int .i64 0, .int .i64 0, .int .i64 0] 34)).cell? ⟨gx, 8, none⟩ = some (.int .i64 (x.c 5)) := AtQ.cells9 (hBd.at9.later hal)
          refine hK.out _ _ (fun _ => hS5) ?_
          clear hK K
          (try simp only [Act.put, List.setIfInBounds_toArray, List.set_cons_zero, List.set_cons_succ])
          have hY5 := atQ_new 34 wd wd.heap.size #[.int .i64 0, .int .i64 0, .slice none 0 0, .int .i64 0, .int .i64 0, .int .i64 0, .int .i64 0, .int .i64 0, .int .i64 0] rfl
          have hBa := hBd.later hal
          obtain ⟨wp, hwp⟩ : ∃ z, (wd.alloc (.cells #[.int .i64 0, .int .i64 0, .slice none 0 0, .int .i64 0, .int .i64 0, .int .i64 0, .int .i64 0, .int .i64 0, .int .i64 0] 34)) = z := ⟨_, rfl⟩
          rw [hwp] at hal hS5 hY5 hBa ⊢
          refine ordM_ready [1] (by kernel_rfl) (by simp) ?_
          refine AllReadyM.cons rfl (fun K hK => ?_) AllReadyM.nil
          go_simp
          go_at_call 11
          refine (neClone_any hBa.nin (by have := hBd.nk; omega)).mono ?_
          rintro e w5 ⟨gc, nc, VV, mpc, rfl, hIc, hnc, hb5⟩
          (try go_wp2_with fail)
          have hb6 := hal.trans (hb5.mono hal.size)
          have hS6 : w5.cell? ⟨gx, 0, none⟩ = some (.int .i64 (am 1 a0 1024)) ∧ w5.cell? ⟨gx, 1, none⟩ = some (.int .i64 (am 1 a1 16777216)) ∧ w5.cell? ⟨gx, 2, none⟩ = some (.slice va l.length vc) ∧ w5.cell? ⟨gx, 3, none⟩ = some (.int .i64 (x.c 0)) ∧ w5.cell? ⟨gx, 4, none⟩ = some (.int .i64 (x.c 1)) ∧ w5.cell? ⟨gx, 5, none⟩ = some (.int .i64 (x.c 2)) ∧ w5.cell? ⟨gx, 6, none⟩ = some (.int .i64 (x.c 3)) ∧ w5.cell? ⟨gx, 7, none⟩ = some (.int .i64 (x.c 4)) ∧ w5.cell? ⟨gx, 8, none⟩ = some (.int .i64 (x.c 5)) := AtQ.cells9 (hBd.at9.later hb6)
          refine hK.out _ _ (fun _ => hS6) ?_
          clear hK K
          (try simp only [Act.put, List.setIfInBounds_toArray, List.set_cons_zero, List.set_cons_succ])
          have hY := hY5.later hb5
          have hIc6 := hIc
          have hsz6 : wd.heap.size ≤ wd.heap.size := Nat.le_refl _
          obtain ⟨B2, hB2⟩ : ∃ z, wp.heap.size = z := ⟨_, rfl⟩
          have hfar : ∀ q, NFoot gn x q → q < B2 := fun q hq => by have := (hBa.nin.foot_lt hq).2; omega
          obtain ⟨w6, hw6⟩ : ∃ z, w5 = z := ⟨_, rfl⟩
          rw [hw6] at hY hIc6 hS6 hb6 ⊢
          have hlt6 : gx < wd.heap.size := hBd.at9.lt
          have hgy6 : wd.heap.size < w6.heap.size := by have := hY.lt; omega
          obtain ⟨gy, hgy⟩ : ∃ z, wd.heap.size = z := ⟨_, rfl⟩
          rw [show (Value.pointer (some ⟨wd.heap.size, 0, none⟩)) = Value.pointer (some ⟨gy, 0, none⟩) from by rw [hgy]]
          have hsz6 : wd.heap.size ≤ gy := by omega
          rw [hgy] at hY
          rw [hB2] at hIc6
          clear hal hY5 hBa hIc hb5 hS5
          refine ordM_take 4 ?vq44 rfl (by kernel_rfl) (by kernel_rfl) (by kernel_rfl) (by kernel_rfl) (fun _ _ _ h => h) (by rfl) ?hq44 (by assumption) ?rq44
          case hq44 => (intro W hSw; (try dsimp only at hSw); go_simp <;> with_reducible rfl)
          (try simp only [Act.put, List.setIfInBounds_toArray, List.set_cons_zero, List.set_cons_succ])
          have hx6 := hBd.later hb6
          have hne : gx ≠ gy := by have := hBd.at9.lt; omega
          have ho := put9_only w6 gy (.int .i64 (am 1 a0 1024)) (.int .i64 (am 1 a1 16777216)) (.slice va l.length vc) (.int .i64 (x.c 0)) (.int .i64 (x.c 1)) (.int .i64 (x.c 2)) (.int .i64 (x.c 3)) (.int .i64 (x.c 4)) (.int .i64 (x.c 5))
          have hZ := atQ9_put hY (.int .i64 (am 1 a0 1024)) (.int .i64 (am 1 a1 16777216)) (.slice va l.length vc) (.int .i64 (x.c 0)) (.int .i64 (x.c 1)) (.int .i64 (x.c 2)) (.int .i64 (x.c 3)) (.int .i64 (x.c 4)) (.int .i64 (x.c 5))
          have hS7 : (((((((((w6.setCell ⟨gy, 0, none⟩ (.int .i64 (am 1 a0 1024))).setCell ⟨gy, 1, none⟩ (.int .i64 (am 1 a1 16777216))).setCell ⟨gy, 2, none⟩ (.slice va l.length vc)).setCell ⟨gy, 3, none⟩ (.int .i64 (x.c 0))).setCell ⟨gy, 4, none⟩ (.int .i64 (x.c 1))).setCell ⟨gy, 5, none⟩ (.int .i64 (x.c 2))).setCell ⟨gy, 6, none⟩ (.int .i64 (x.c 3))).setCell ⟨gy, 7, none⟩ (.int .i64 (x.c 4))).setCell ⟨gy, 8, none⟩ (.int .i64 (x.c 5))).cell? ⟨gx, 0, none⟩ = some (.int .i64 (am 1 a0 1024)) ∧ (((((((((w6.setCell ⟨gy, 0, none⟩ (.int .i64 (am 1 a0 1024))).setCell ⟨gy, 1, none⟩ (.int .i64 (am 1 a1 16777216))).setCell ⟨gy, 2, none⟩ (.slice va l.length vc)).setCell ⟨gy, 3, none⟩ (.int .i64 (x.c 0))).setCell ⟨gy, 4, none⟩ (.int .i64 (x.c 1))).setCell ⟨gy, 5, none⟩ (.int .i64 (x.c 2))).setCell ⟨gy, 6, none⟩ (.int .i64 (x.c 3))).setCell ⟨gy, 7, none⟩ (.int .i64 (x.c 4))).setCell ⟨gy, 8, none⟩ (.int .i64 (x.c 5))).cell? ⟨gx, 1, none⟩ = some (.int .i64 (am 1 a1 16777216)) ∧ (((((((((w6.setCell ⟨gy, 0, none⟩ (.int .i64 (am 1 a0 1024))).setCell ⟨gy, 1, none⟩ (.int .i64 (am 1 a1 16777216))).setCell ⟨gy, 2, none⟩ (.slice va l.length vc)).setCell ⟨gy, 3, none⟩ (.int .i64 (x.c 0))).setCell ⟨gy, 4, none⟩ (.int .i64 (x.c 1))).setCell ⟨gy, 5, none⟩ (.int .i64 (x.c 2))).setCell ⟨gy, 6, none⟩ (.int .i64 (x.c 3))).setCell ⟨gy, 7, none⟩ (.int .i64 (x.c 4))).setCell ⟨gy, 8, none⟩ (.int .i64 (x.c 5))).cell? ⟨gx, 2, none⟩ = some (.slice va l.length vc) ∧ (((((((((w6.setCell ⟨gy, 0, none⟩ (.int .i64 (am 1 a0 1024))).setCell ⟨gy, 1, none⟩ (.int .i64 (am 1 a1 16777216))).setCell ⟨gy, 2, none⟩ (.slice va l.length vc)).setCell ⟨gy, 3, none⟩ (.int .i64 (x.c 0))).setCell ⟨gy, 4, none⟩ (.int .i64 (x.c 1))).setCell ⟨gy, 5, none⟩ (.int .i64 (x.c 2))).setCell ⟨gy, 6, none⟩ (.int .i64 (x.c 3))).setCell ⟨gy, 7, none⟩ (.int .i64 (x.c 4))).setCell ⟨gy, 8, none⟩ (.int .i64 (x.c 5))).cell? ⟨gx, 3, none⟩ = some (.int .i64 (x.c 0)) ∧ (((((((((w6.setCell ⟨gy, 0, none⟩ (.int .i64 (am 1 a0 1024))).setCell ⟨gy, 1, none⟩ (.int .i64 (am 1 a1 16777216))).setCell ⟨gy, 2, none⟩ (.slice va l.length vc)).setCell ⟨gy, 3, none⟩ (.int .i64 (x.c 0))).setCell ⟨gy, 4, none⟩ (.int .i64 (x.c 1))).setCell ⟨gy, 5, none⟩ (.int .i64 (x.c 2))).setCell ⟨gy, 6, none⟩ (.int .i64 (x.c 3))).setCell ⟨gy, 7, none⟩ (.int .i64 (x.c 4))).setCell ⟨gy, 8, none⟩ (.int .i64 (x.c 5))).cell? ⟨gx, 4, none⟩ = some (.int .i64 (x.c 1)) ∧ (((((((((w6.setCell ⟨gy, 0, none⟩ (.int .i64 (am 1 a0 1024))).setCell ⟨gy, 1, none⟩ (.int .i64 (am 1 a1 16777216))).setCell ⟨gy, 2, none⟩ (.slice va l.length vc)).setCell ⟨gy, 3, none⟩ (.int .i64 (x.c 0))).setCell ⟨gy, 4, none⟩ (.int .i64 (x.c 1))).setCell ⟨gy, 5, none⟩ (.int .i64 (x.c 2))).setCell ⟨gy, 6, none⟩ (.int .i64 (x.c 3))).setCell ⟨gy, 7, none⟩ (.int .i64 (x.c 4))).setCell ⟨gy, 8, none⟩ (.int .i64 (x.c 5))).cell? ⟨gx, 5, none⟩ = some (.int .i64 (x.c 2)) ∧ (((((((((w6.setCell ⟨gy, 0, none⟩ (.int .i64 (am 1 a0 1024))).setCell ⟨gy, 1, none⟩ (.int .i64 (am 1 a1 16777216))).setCell ⟨gy, 2, none⟩ (.slice va l.length vc)).setCell ⟨gy, 3, none⟩ (.int .i64 (x.c 0))).setCell ⟨gy, 4, none⟩ (.int .i64 (x.c 1))).setCell ⟨gy, 5, none⟩ (.int .i64 (x.c 2))).setCell ⟨gy, 6, none⟩ (.int .i64 (x.c 3))).setCell ⟨gy, 7, none⟩ (.int .i64 (x.c 4))).setCell ⟨gy, 8, none⟩ (.int .i64 (x.c 5))).cell? ⟨gx, 6, none⟩ = some (.int .i64 (x.c 3)) ∧ (((((((((w6.setCell ⟨gy, 0, none⟩ (.int .i64 (am 1 a0 1024))).setCell ⟨gy, 1, none⟩ (.int .i64 (am 1 a1 16777216))).setCell ⟨gy, 2, none⟩ (.slice va l.length vc)).setCell ⟨gy, 3, none⟩ (.int .i64 (x.c 0))).setCell ⟨gy, 4, none⟩ (.int .i64 (x.c 1))).setCell ⟨gy, 5, none⟩ (.int .i64 (x.c 2))).setCell ⟨gy, 6, none⟩ (.int .i64 (x.c 3))).setCell ⟨gy, 7, none⟩ (.int .i64 (x.c 4))).setCell ⟨gy, 8, none⟩ (.int .i64 (x.c 5))).cell? ⟨gx, 7, none⟩ = some (.int .i64 (x.c 4)) ∧ (((((((((w6.setCell ⟨gy, 0, none⟩ (.int .i64 (am 1 a0 1024))).setCell ⟨gy, 1, none⟩ (.int .i64 (am 1 a1 16777216))).setCell ⟨gy, 2, none⟩ (.slice va l.length vc)).setCell ⟨gy, 3, none⟩ (.int .i64 (x.c 0))).setCell ⟨gy, 4, none⟩ (.int .i64 (x.c 1))).setCell ⟨gy, 5, none⟩ (.int .i64 (x.c 2))).setCell ⟨gy, 6, none⟩ (.int .i64 (x.c 3))).setCell ⟨gy, 7, none⟩ (.int .i64 (x.c 4))).setCell ⟨gy, 8, none⟩ (.int .i64 (x.c 5))).cell? ⟨gx, 8, none⟩ = some (.int .i64 (x.c 5)) := AtQ.cells9 (hx6.at9.only hne ho)
          obtain ⟨_, _, _, _, _, _, _, _, _⟩ := AtQ.cells9 hY
          obtain ⟨_, _, _, _, _, _, _, _, _⟩ := AtQ.frees9 hY
          refine ordM_ready [5] (by kernel_rfl) (by simp) ?_
          refine AllReadyM.cons rfl (fun K hK => ?_) AllReadyM.nil
          go_simp
          refine hK.out _ _ (fun _ => hS7) ?_
          clear hK K
          (try simp only [Act.put, List.setIfInBounds_toArray, List.set_cons_zero, List.set_cons_succ])
          refine ordM_done (by kernel_rfl) ?_ _
          refine NoPanic.normal ?_
          have hB7 : NeBoth (((((((((w6.setCell ⟨gy, 0, none⟩ (.int .i64 (am 1 a0 1024))).setCell ⟨gy, 1, none⟩ (.int .i64 (am 1 a1 16777216))).setCell ⟨gy, 2, none⟩ (.slice va l.length vc)).setCell ⟨gy, 3, none⟩ (.int .i64 (x.c 0))).setCell ⟨gy, 4, none⟩ (.int .i64 (x.c 1))).setCell ⟨gy, 5, none⟩ (.int .i64 (x.c 2))).setCell ⟨gy, 6, none⟩ (.int .i64 (x.c 3))).setCell ⟨gy, 7, none⟩ (.int .i64 (x.c 4))).setCell ⟨gy, 8, none⟩ (.int .i64 (x.c 5))) a0 a1 B gn gx n x (.slice va l.length vc) l k := ⟨hx6.nin.only hY ho (by decide) (by decide), hx6.eq, hx6.row.keep (by rw [ho.size]; exact Nat.le_refl _) (fun q cs q1 q2 => ho.block q (fun e => by
            subst e
            exact blkQ_ne (T := 84) (T' := 34) q2 hY (by decide) rfl)), hx6.at9.only hne ho, hx6.lm, hx6.lb, hx6.nk, hx6.len, hx6.ct⟩
          have hC7 : NeBoth (((((((((w6.setCell ⟨gy, 0, none⟩ (.int .i64 (am 1 a0 1024))).setCell ⟨gy, 1, none⟩ (.int .i64 (am 1 a1 16777216))).setCell ⟨gy, 2, none⟩ (.slice va l.length vc)).setCell ⟨gy, 3, none⟩ (.int .i64 (x.c 0))).setCell ⟨gy, 4, none⟩ (.int .i64 (x.c 1))).setCell ⟨gy, 5, none⟩ (.int .i64 (x.c 2))).setCell ⟨gy, 6, none⟩ (.int .i64 (x.c 3))).setCell ⟨gy, 7, none⟩ (.int .i64 (x.c 4))).setCell ⟨gy, 8, none⟩ (.int .i64 (x.c 5))) a0 a1 B2 gc gy nc ⟨x.m, x.b, mpc, VV, x.G, x.c⟩ (.slice va l.length vc) l (k + 1) := ⟨hIc6.only hY ho (by decide) (by decide), ⟨hx6.eq.g, hx6.eq.tx⟩, hB7.row, hZ, hx6.lm, hx6.lb, by have := hx6.nk; omega, by have := hx6.len; omega, fun i => by have := hx6.ct i; exact ⟨this.1, by show x.c i ≤ ((k + 1 : Nat) : Int); omega⟩⟩
          have hltd := hBd.at9.lt
          have hW7 := (hWd.trans (hb6.mono (by omega))).trans (ho.below (by omega))
          have hgyg : g ≤ gy := by omega
          have hgB2 : g ≤ B2 := by have := hfar gn (.inl rfl); have := hx6.nin.bs; omega
          generalize (((((((((w6.setCell ⟨gy, 0, none⟩ (.int .i64 (am 1 a0 1024))).setCell ⟨gy, 1, none⟩ (.int .i64 (am 1 a1 16777216))).setCell ⟨gy, 2, none⟩ (.slice va l.length vc)).setCell ⟨gy, 3, none⟩ (.int .i64 (x.c 0))).setCell ⟨gy, 4, none⟩ (.int .i64 (x.c 1))).setCell ⟨gy, 5, none⟩ (.int .i64 (x.c 2))).setCell ⟨gy, 6, none⟩ (.int .i64 (x.c 3))).setCell ⟨gy, 7, none⟩ (.int .i64 (x.c 4))).setCell ⟨gy, 8, none⟩ (.int .i64 (x.c 5))) = w7 at *
          generalize hx2 : (⟨x.m, x.b, mpc, VV, x.G, x.c⟩ : NE) = x20 at hC7
          clear hS7 hx6 hZ ho hY hIc6 hb6 hBd hWd hSd hx2
          go_wp2_with fail
          go_loopw [9, 13] (fun s9 s13 wr => ∃ (k2 n2 : Nat) (x2 : NE) (v2 : Value) (l2 : List OD), k2 ≤ len2 ∧ k2 ≤ 15 ∧ s13 = .int .i64 k2 ∧ Hid (NeBoth wr a0 a1 B gn gx n x (.slice va l.length vc) l k) ∧ Hid (NeBoth wr a0 a1 B2 gc gy n2 x2 v2 l2 (k + 1 + k2)) ∧ Hid (Below g w wr)) (fun _ s13 _ => 15 - (intOf s13).toNat)
          case atStart => exact ⟨0, nc, x20, .slice va l.length vc, l, Nat.zero_le _, by omega, rfl, Lib.hid hB7, Lib.hid hC7, Lib.hid hW7⟩
          case round =>
            obtain ⟨k2, n2, x2, v2, l2, hk2, hk15, rfl, HB, HC, HW⟩ := hrel
            clear hB7 hC7 hW7
            by_cases hlt2 : k2 < len2 ∧ k2 < 15
            · obtain ⟨hlt2, hlt15⟩ := hlt2
              obtain ⟨ab, off, rfl, hab, kd, wy, pt, ix, bt, mk, d, hwf, hmk, wds, hact⟩ := HACT2.out k2 hlt2 wr HW.out
              have hdk : decide ((k2 : Int) < (len2 : Int)) = true := decide_eq_true (by omega)
              have hdk2 : decide ((k2 : Int) < 15) = true := decide_eq_true (by omega)
              have hki : (k2 : Int) < len2 := by omega
              go_upto_region 20 with fail
              have hBd := HC.out.drew
              have hSd : wr.drew.cell? ⟨ab, off + k2 * 7, none⟩ = some (.int .i64 kd) ∧ wr.drew.cell? ⟨ab, off + k2 * 7 + 1, none⟩ = some (.int .i64 wy) ∧ wr.drew.cell? ⟨ab, off + k2 * 7 + 2, none⟩ = some (.int .i64 pt) ∧ wr.drew.cell? ⟨ab, off + k2 * 7 + 3, none⟩ = some (.int .i64 ix) ∧ wr.drew.cell? ⟨ab, off + k2 * 7 + 4, none⟩ = some (.int .i64 bt) ∧ wr.drew.cell? ⟨ab, off + k2 * 7 + 5, none⟩ = some (.int .u32 (mk : Int)) ∧ wr.drew.cell? ⟨ab, off + k2 * 7 + 6, none⟩ = some (.string d) := hact
              refine wp_region_noPanic ?_
              refine ordM_begin (fun W : World => W.cell? ⟨ab, off + k2 * 7, none⟩ = some (.int .i64 kd) ∧ W.cell? ⟨ab, off + k2 * 7 + 1, none⟩ = some (.int .i64 wy) ∧ W.cell? ⟨ab, off + k2 * 7 + 2, none⟩ = some (.int .i64 pt) ∧ W.cell? ⟨ab, off + k2 * 7 + 3, none⟩ = some (.int .i64 ix) ∧ W.cell? ⟨ab, off + k2 * 7 + 4, none⟩ = some (.int .i64 bt) ∧ W.cell? ⟨ab, off + k2 * 7 + 5, none⟩ = some (.int .u32 (mk : Int)) ∧ W.cell? ⟨ab, off + k2 * 7 + 6, none⟩ = some (.string d)) (fun i => false) (by kernel_rfl) hSd ?_
              have hWd := HW.out.drew
              have hBs := HB.out.drew
              generalize wr.drew = wd at *
              have hB9 : NeBoth wd a0 a1 _ _ _ _ _ _ _ _ := hBd
              obtain ⟨_, _, _, _, _, _, _, _, _⟩ := AtQ.cells9 hBd.at9
              refine ordM_take 0 ?vq45 rfl (by kernel_rfl) (by kernel_rfl) (by kernel_rfl) (by kernel_rfl) (fun _ _ _ h => h) (by rfl) ?hq45 (by assumption) ?rq45
              case hq45 => (intro W hSw; (try dsimp only at hSw); go_simp <;> with_reducible rfl)
              (try simp only [Act.put, List.setIfInBounds_toArray, List.set_cons_zero, List.set_cons_succ])
              refine ordM_take 2 ?vq46 rfl (by kernel_rfl) (by kernel_rfl) (by kernel_rfl) (by kernel_rfl) (fun _ _ _ h => h) (by rfl) ?hq46 (by assumption) ?rq46
              case hq46 => (intro W hSw; (try dsimp only at hSw); go_simp <;> with_reducible rfl)
              (try simp only [Act.put, List.setIfInBounds_toArray, List.set_cons_zero, List.set_cons_succ])
              refine ordM_take 3 ?vq47 rfl (by kernel_rfl) (by kernel_rfl) (by kernel_rfl) (by kernel_rfl) (fun _ _ _ h => h) (by rfl) ?hq47 (by assumption) ?rq47
              case hq47 => (intro W hSw; (try dsimp only at hSw); go_simp <;> with_reducible rfl)
              (try simp only [Act.put, List.setIfInBounds_toArray, List.set_cons_zero, List.set_cons_succ])
              refine ordM_take 4 ?vq48 rfl (by kernel_rfl) (by kernel_rfl) (by kernel_rfl) (by kernel_rfl) (fun _ _ _ h => h) (by rfl) ?hq48 (by assumption) ?rq48
              case hq48 => (intro W hSw; (try dsimp only at hSw); go_simp <;> with_reducible rfl)
              (try simp only [Act.put, List.setIfInBounds_toArray, List.set_cons_zero, List.set_cons_succ])
              refine ordM_take 5 ?vq49 rfl (by kernel_rfl) (by kernel_rfl) (by kernel_rfl) (by kernel_rfl) (fun _ _ _ h => h) (by rfl) ?hq49 (by assumption) ?rq49
              case hq49 => (intro W hSw; (try dsimp only at hSw); go_simp <;> with_reducible rfl)
              (try simp only [Act.put, List.setIfInBounds_toArray, List.set_cons_zero, List.set_cons_succ])
              refine ordM_ready [1] (by kernel_rfl) (by simp) ?_
              refine AllReadyM.cons rfl (fun K hK => ?_) AllReadyM.nil
              go_simp
              refine hK.out _ _ (fun _ => hSd) ?_
              clear hK K
              (try simp only [Act.put, List.setIfInBounds_toArray, List.set_cons_zero, List.set_cons_succ])
              refine ordM_ready [6] (by kernel_rfl) (by simp) ?_
              refine AllReadyM.cons rfl (fun K hK => ?_) AllReadyM.nil
              go_simp
              go_at_call 9
              refine (hBd.do_any (by omega) kd wy pt ix bt mk hmk d hwf wds).mono ?_
              rintro e w5 ⟨x5, v5, l5, rfl, hD⟩
              obtain ⟨va, vc, rfl⟩ := hD.row.formG
              unfold neBox
              (try go_wp2_with fail)
              have hA5 := hBd.at9.nkeep hBd.nin hD.keep (by decide) (by decide)
              have hk5 := hD.keep.below hBd.nin
              have hS5 : w5.cell? ⟨ab, off + k2 * 7, none⟩ = some (.int .i64 kd) ∧ w5.cell? ⟨ab, off + k2 * 7 + 1, none⟩ = some (.int .i64 wy) ∧ w5.cell? ⟨ab, off + k2 * 7 + 2, none⟩ = some (.int .i64 pt) ∧ w5.cell? ⟨ab, off + k2 * 7 + 3, none⟩ = some (.int .i64 ix) ∧ w5.cell? ⟨ab, off + k2 * 7 + 4, none⟩ = some (.int .i64 bt) ∧ w5.cell? ⟨ab, off + k2 * 7 + 5, none⟩ = some (.int .u32 (mk : Int)) ∧ w5.cell? ⟨ab, off + k2 * 7 + 6, none⟩ = some (.string d) := cells7_keep hSd (hk5.block ab (by omega))
              refine hK.out _ _ (fun _ => hS5) ?_
              clear hK K
              (try simp only [Act.put, List.setIfInBounds_toArray, List.set_cons_zero, List.set_cons_succ])
              refine ordM_take 7 ?vq50 rfl (by kernel_rfl) (by kernel_rfl) (by kernel_rfl) (by kernel_rfl) (fun _ _ _ h => h) (by rfl) ?hq50 (by assumption) ?rq50
              case hq50 => (intro W hSw; (try dsimp only at hSw); go_simp <;> with_reducible rfl)
              (try simp only [Act.put, List.setIfInBounds_toArray, List.set_cons_zero, List.set_cons_succ])
              refine ordM_take 8 ?vq51 rfl (by kernel_rfl) (by kernel_rfl) (by kernel_rfl) (by kernel_rfl) (fun _ _ _ h => h) (by rfl) ?hq51 (by assumption) ?rq51
              case hq51 => (intro W hSw; (try dsimp only at hSw); go_simp <;> with_reducible rfl)
              (try simp only [Act.put, List.setIfInBounds_toArray, List.set_cons_zero, List.set_cons_succ])
              refine ordM_take 9 ?vq52 rfl (by kernel_rfl) (by kernel_rfl) (by kernel_rfl) (by kernel_rfl) (fun _ _ _ h => h) (by rfl) ?hq52 (by assumption) ?rq52
              case hq52 => (intro W hSw; (try dsimp only at hSw); go_simp <;> with_reducible rfl)
              (try simp only [Act.put, List.setIfInBounds_toArray, List.set_cons_zero, List.set_cons_succ])
              have ho := put9_only w5 gy (.int .i64 (am 1 a0 1024)) (.int .i64 (am 1 a1 16777216)) (.slice va l5.length vc) (.int .i64 (x5.c 0)) (.int .i64 (x5.c 1)) (.int .i64 (x5.c 2)) (.int .i64 (x5.c 3)) (.int .i64 (x5.c 4)) (.int .i64 (x5.c 5))
              have hZ := atQ9_put hA5 (.int .i64 (am 1 a0 1024)) (.int .i64 (am 1 a1 16777216)) (.slice va l5.length vc) (.int .i64 (x5.c 0)) (.int .i64 (x5.c 1)) (.int .i64 (x5.c 2)) (.int .i64 (x5.c 3)) (.int .i64 (x5.c 4)) (.int .i64 (x5.c 5))
              have hS8 : (((((((((w5.setCell ⟨gy, 0, none⟩ (.int .i64 (am 1 a0 1024))).setCell ⟨gy, 1, none⟩ (.int .i64 (am 1 a1 16777216))).setCell ⟨gy, 2, none⟩ (.slice va l5.length vc)).setCell ⟨gy, 3, none⟩ (.int .i64 (x5.c 0))).setCell ⟨gy, 4, none⟩ (.int .i64 (x5.c 1))).setCell ⟨gy, 5, none⟩ (.int .i64 (x5.c 2))).setCell ⟨gy, 6, none⟩ (.int .i64 (x5.c 3))).setCell ⟨gy, 7, none⟩ (.int .i64 (x5.c 4))).setCell ⟨gy, 8, none⟩ (.int .i64 (x5.c 5))).cell? ⟨ab, off + k2 * 7, none⟩ = some (.int .i64 kd) ∧ (((((((((w5.setCell ⟨gy, 0, none⟩ (.int .i64 (am 1 a0 1024))).setCell ⟨gy, 1, none⟩ (.int .i64 (am 1 a1 16777216))).setCell ⟨gy, 2, none⟩ (.slice va l5.length vc)).setCell ⟨gy, 3, none⟩ (.int .i64 (x5.c 0))).setCell ⟨gy, 4, none⟩ (.int .i64 (x5.c 1))).setCell ⟨gy, 5, none⟩ (.int .i64 (x5.c 2))).setCell ⟨gy, 6, none⟩ (.int .i64 (x5.c 3))).setCell ⟨gy, 7, none⟩ (.int .i64 (x5.c 4))).setCell ⟨gy, 8, none⟩ (.int .i64 (x5.c 5))).cell? ⟨ab, off + k2 * 7 + 1, none⟩ = some (.int .i64 wy) ∧ (((((((((w5.setCell ⟨gy, 0, none⟩ (.int .i64 (am 1 a0 1024))).setCell ⟨gy, 1, none⟩ (.int .i64 (am 1 a1 16777216))).setCell ⟨gy, 2, none⟩ (.slice va l5.length vc)).setCell ⟨gy, 3, none⟩ (.int .i64 (x5.c 0))).setCell ⟨gy, 4, none⟩ (.int .i64 (x5.c 1))).setCell ⟨gy, 5, none⟩ (.int .i64 (x5.c 2))).setCell ⟨gy, 6, none⟩ (.int .i64 (x5.c 3))).setCell ⟨gy, 7, none⟩ (.int .i64 (x5.c 4))).setCell ⟨gy, 8, none⟩ (.int .i64 (x5.c 5))).cell? ⟨ab, off + k2 * 7 + 2, none⟩ = some (.int .i64 pt) ∧ (((((((((w5.setCell ⟨gy, 0, none⟩ (.int .i64 (am 1 a0 1024))).setCell ⟨gy, 1, none⟩ (.int .i64 (am 1 a1 16777216))).setCell ⟨gy, 2, none⟩ (.slice va l5.length vc)).setCell ⟨gy, 3, none⟩ (.int .i64 (x5.c 0))).setCell ⟨gy, 4, none⟩ (.int .i64 (x5.c 1))).setCell ⟨gy, 5, none⟩ (.int .i64 (x5.c 2))).setCell ⟨gy, 6, none⟩ (.int .i64 (x5.c 3))).setCell ⟨gy, 7, none⟩ (.int .i64 (x5.c 4))).setCell ⟨gy, 8, none⟩ (.int .i64 (x5.c 5))).cell? ⟨ab, off + k2 * 7 + 3, none⟩ = some (.int .i64 ix) ∧ (((((((((w5.setCell ⟨gy, 0, none⟩ (.int .i64 (am 1 a0 1024))).setCell ⟨gy, 1, none⟩ (.int .i64 (am 1 a1 16777216))).setCell ⟨gy, 2, none⟩ (.slice va l5.length vc)).setCell ⟨gy, 3, none⟩ (.int .i64 (x5.c 0))).setCell ⟨gy, 4, none⟩ (.int .i64 (x5.c 1))).setCell ⟨gy, 5, none⟩ (.int .i64 (x5.c 2))).setCell ⟨gy, 6, none⟩ (.int .i64 (x5.c 3))).setCell ⟨gy, 7, none⟩ (.int .i64 (x5.c 4))).setCell ⟨gy, 8, none⟩ (.int .i64 (x5.c 5))).cell? ⟨ab, off + k2 * 7 + 4, none⟩ = some (.int .i64 bt) ∧ (((((((((w5.setCell ⟨gy, 0, none⟩ (.int .i64 (am 1 a0 1024))).setCell ⟨gy, 1, none⟩ (.int .i64 (am 1 a1 16777216))).setCell ⟨gy, 2, none⟩ (.slice va l5.length vc)).setCell ⟨gy, 3, none⟩ (.int .i64 (x5.c 0))).setCell ⟨gy, 4, none⟩ (.int .i64 (x5.c 1))).setCell ⟨gy, 5, none⟩ (.int .i64 (x5.c 2))).setCell ⟨gy, 6, none⟩ (.int .i64 (x5.c 3))).setCell ⟨gy, 7, none⟩ (.int .i64 (x5.c 4))).setCell ⟨gy, 8, none⟩ (.int .i64 (x5.c 5))).cell? ⟨ab, off + k2 * 7 + 5, none⟩ = some (.int .u32 (mk : Int)) ∧ (((((((((w5.setCell ⟨gy, 0, none⟩ (.int .i64 (am 1 a0 1024))).setCell ⟨gy, 1, none⟩ (.int .i64 (am 1 a1 16777216))).setCell ⟨gy, 2, none⟩ (.slice va l5.length vc)).setCell ⟨gy, 3, none⟩ (.int .i64 (x5.c 0))).setCell ⟨gy, 4, none⟩ (.int .i64 (x5.c 1))).setCell ⟨gy, 5, none⟩ (.int .i64 (x5.c 2))).setCell ⟨gy, 6, none⟩ (.int .i64 (x5.c 3))).setCell ⟨gy, 7, none⟩ (.int .i64 (x5.c 4))).setCell ⟨gy, 8, none⟩ (.int .i64 (x5.c 5))).cell? ⟨ab, off + k2 * 7 + 6, none⟩ = some (.string d) := cells7_keep hS5 (ho.block ab (by omega))
              obtain ⟨_, _, _, _, _, _, _, _, _⟩ := AtQ.cells9 hA5
              obtain ⟨_, _, _, _, _, _, _, _, _⟩ := AtQ.frees9 hA5
              refine ordM_ready [10] (by kernel_rfl) (by simp) ?_
              refine AllReadyM.cons rfl (fun K hK => ?_) AllReadyM.nil
              go_simp
              refine hK.out _ _ (fun _ => hS8) ?_
              clear hK K
              (try simp only [Act.put, List.setIfInBounds_toArray, List.set_cons_zero, List.set_cons_succ])
              refine ordM_take 11 ?vq53 rfl (by kernel_rfl) (by kernel_rfl) (by kernel_rfl) (by kernel_rfl) (fun _ _ _ h => h) (by rfl) ?hq53 (by assumption) ?rq53
              case hq53 => (intro W hSw; (try dsimp only at hSw); go_simp <;> with_reducible rfl)
              (try simp only [Act.put, List.setIfInBounds_toArray, List.set_cons_zero, List.set_cons_succ])
              refine ordM_done (by kernel_rfl) ?_ _
              refine NoPanic.normal ?_
              have hC8 := hBd.next hD ho hZ
              have hB8s := hBs.beside hBd hfar hne hD ho
              have hW8 := (hWd.trans (hk5.mono (by omega))).trans (ho.below (by omega))
              generalize (((((((((w5.setCell ⟨gy, 0, none⟩ (.int .i64 (am 1 a0 1024))).setCell ⟨gy, 1, none⟩ (.int .i64 (am 1 a1 16777216))).setCell ⟨gy, 2, none⟩ (.slice va l5.length vc)).setCell ⟨gy, 3, none⟩ (.int .i64 (x5.c 0))).setCell ⟨gy, 4, none⟩ (.int .i64 (x5.c 1))).setCell ⟨gy, 5, none⟩ (.int .i64 (x5.c 2))).setCell ⟨gy, 6, none⟩ (.int .i64 (x5.c 3))).setCell ⟨gy, 7, none⟩ (.int .i64 (x5.c 4))).setCell ⟨gy, 8, none⟩ (.int .i64 (x5.c 5))) = w8 at *
              clear hS8 hS5 hSd hact hA5 hk5 hD hZ ho hBd hWd hB9
              go_wp2_with fail
              go_roundw
              case rel => exact ⟨k2 + 1, n2 + 1, x5, _, l5, by omega, by omega, by go_num, Lib.hid hB8s, Lib.hid hC8, Lib.hid hW8⟩
              case measure => simp [intOf]; omega
            · by_cases hq2 : k2 < len2
              · have hd21 : decide ((k2 : Int) < (len2 : Int)) = true := decide_eq_true (by omega)
                have hd22 : decide ((k2 : Int) < 15) = false := decide_eq_false (by omega)
                obtain ⟨vb, vd, rfl⟩ := HC.out.row.formG
                go_wp2_with fail
                refine (neClip_any a0 a1 _).mono ?_
                rintro e wk ⟨rfl, hbk⟩
                have hK := atQ_new 29 wk wk.heap.size #[.int .i64 (am 1 a0 1024), .int .i64 (am 1 a1 16777216)] rfl
                have hal : Below wk.heap.size wk (wk.alloc (.cells #[.int .i64 (am 1 a0 1024), .int .i64 (am 1 a1 16777216)] 29)) := (Below.refl _ _).alloc (Nat.le_refl _) _
                have hbl := hbk.trans (hal.mono hbk.size)
                have hB9 := HB.out.later hbl
                have hC9 := HC.out.later hbl
                have hgr : g ≤ wr.heap.size := by have := HB.out.at9.lt; omega
                have hW9 := HW.out.trans (hbl.mono hgr)
                go_upto_region 24 with fail
                generalize (wk.alloc (.cells #[.int .i64 (am 1 a0 1024), .int .i64 (am 1 a1 16777216)] 29)) = w9 at *
                generalize wk.heap.size = gk at *
                clear hal hbl hbk HB HC HW
                obtain ⟨_, _, _, _, _, _, _, _, _⟩ := AtQ.cells9 hB9.at9
                have HISX := Lib.hid (hB9.is_any (by omega))
                unfold neBox at HISX
                go_wp2_with fail
                refine HISX.out.mono ?_
                rintro e wm ⟨rfl, hbm⟩
                have hCm := hC9.later hbm
                have hBm := hB9.later hbm
                have hKm := hK.later hbm
                have hgm : g ≤ w9.heap.size := by have := hB9.at9.lt; omega
                have hWm := hW9.trans (hbm.mono hgm)
                obtain ⟨_, _, _, _, _, _, _, _, _⟩ := AtQ.cells9 hCm.at9
                have HISY := Lib.hid (hCm.is_any (by omega))
                unfold neBox at HISY
                go_wp2_with fail
                refine HISY.out.mono ?_
                rintro e wn ⟨rfl, hbn⟩
                obtain ⟨_, _, _, _, _, _, _, _, _⟩ := AtQ.cells9 (hBm.later hbn).at9
                obtain ⟨_, _⟩ := (hKm.later hbn).cells2
                have hgn : g ≤ wm.heap.size := by have := hBm.at9.lt; omega
                have hWn := hWm.trans (hbn.mono hgn)
                go_wp2_with fail
                go_ret
                exact ⟨rfl, by rw [HG.out]; exact hWn⟩
              · have hd21 : decide ((k2 : Int) < (len2 : Int)) = false := decide_eq_false (by omega)
                obtain ⟨vb, vd, rfl⟩ := HC.out.row.formG
                go_wp2_with fail
                refine (neClip_any a0 a1 _).mono ?_
                rintro e wk ⟨rfl, hbk⟩
                have hK := atQ_new 29 wk wk.heap.size #[.int .i64 (am 1 a0 1024), .int .i64 (am 1 a1 16777216)] rfl
                have hal : Below wk.heap.size wk (wk.alloc (.cells #[.int .i64 (am 1 a0 1024), .int .i64 (am 1 a1 16777216)] 29)) := (Below.refl _ _).alloc (Nat.le_refl _) _
                have hbl := hbk.trans (hal.mono hbk.size)
                have hB9 := HB.out.later hbl
                have hC9 := HC.out.later hbl
                have hgr : g ≤ wr.heap.size := by have := HB.out.at9.lt; omega
                have hW9 := HW.out.trans (hbl.mono hgr)
                go_upto_region 24 with fail
                generalize (wk.alloc (.cells #[.int .i64 (am 1 a0 1024), .int .i64 (am 1 a1 16777216)] 29)) = w9 at *
                generalize wk.heap.size = gk at *
                clear hal hbl hbk HB HC HW
                obtain ⟨_, _, _, _, _, _, _, _, _⟩ := AtQ.cells9 hB9.at9
                have HISX := Lib.hid (hB9.is_any (by omega))
                unfold neBox at HISX
                go_wp2_with fail
                refine HISX.out.mono ?_
                rintro e wm ⟨rfl, hbm⟩
                have hCm := hC9.later hbm
                have hBm := hB9.later hbm
                have hKm := hK.later hbm
                have hgm : g ≤ w9.heap.size := by have := hB9.at9.lt; omega
                have hWm := hW9.trans (hbm.mono hgm)
                obtain ⟨_, _, _, _, _, _, _, _, _⟩ := AtQ.cells9 hCm.at9
                have HISY := Lib.hid (hCm.is_any (by omega))
                unfold neBox at HISY
                go_wp2_with fail
                refine HISY.out.mono ?_
                rintro e wn ⟨rfl, hbn⟩
                obtain ⟨_, _, _, _, _, _, _, _, _⟩ := AtQ.cells9 (hBm.later hbn).at9
                obtain ⟨_, _⟩ := (hKm.later hbn).cells2
                have hgn : g ≤ wm.heap.size := by have := hBm.at9.lt; omega
                have hWn := hWm.trans (hbn.mono hgn)
                go_wp2_with fail
                go_ret
                exact ⟨rfl, by rw [HG.out]; exact hWn⟩
end netPlays
end Go.Proofs.Ytbmbomojnljccaa
