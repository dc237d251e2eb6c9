/- notes.readApp. -/
import Derived.Test.YtjoikidnnhjogaaNtA
import Derived.Test.YtjoikidnnhjogaaRpO
namespace Go.Proofs.Ytjoikidnnhjogaa
open Go.RowKit
set_option linter.unusedVariables false
set_option maxRecDepth 100000 in
set_option maxHeartbeats 3200000 in
theorem readApp_any (p : PC) (w : World) (hs : p.body.size ≤ 1099511627776) :
    Calls Try.prog 84 #[.agg #[.int .i64 p.count, .int .i64 p.kind, .string p.body]] w fun e w' =>
      e = .returned (.agg #[.int .i64 (apRd p).sub, .int .u32 (apRd p).src, .string (apRd p).name, .string (apRd p).data]) ∧ Below w.heap.size w w' := by
  obtain ⟨count, kind, s⟩ := p
  unfold apRd
  simp only at *
  obtain ⟨st1, h1⟩ : ∃ st, rd (s, 0) 4 = st := ⟨_, rfl⟩
  obtain ⟨st2, h2⟩ : ∃ st, rd st1 4 = st := ⟨_, rfl⟩
  have l1 : st1.1.size ≤ 1099511627776 := by rw [← h1]; exact Nat.le_trans (rawS_le _ _ _) hs
  have l2 : st2.1.size ≤ 1099511627776 := by rw [← h2]; exact Nat.le_trans (rawS_le _ _ _) l1
  have H1 : ∀ (b : Nat) (W : World), InAt W b s 0 → Calls Try.prog 94 #[.pointer (some ⟨b, 0, none⟩)] W (Took b (.int .u32 ((getN (by_ (rawT s 4)) : Nat) : Int)) (rd (s, 0) 4).1 (rd (s, 0) 4).2 W) := fun b W h => u32_st b (s, 0) W h (by show s.size ≤ _; omega)
  have H2 := fun (b : Nat) W (h : InAt W b st1.1 st1.2) => raw_st b st1 4 W h (by omega)
  have H3 := fun (b : Nat) W (h : InAt W b st2.1 st2.2) => raw_st b st2 ((st2.1.size : Nat) : Int) W h (by omega)
  have H4 := fun (b : Nat) W (h : InAt W b st2.1 st2.2) => left_any b st2.1 st2.2 W h
  rw [h1] at H1
  rw [h2] at H2
  rw [h1, h2]
  have hz : (st2.1.size : Int) ≤ 1099511627776 := by omega
  have hz0 : (0 : Int) ≤ (st2.1.size : Int) := by omega
  clear h1 h2 l1 l2
  generalize ((st2.1.size : Nat) : Int) = SZ at H3 H4 hz hz0 ⊢
  generalize rawT st2.1 SZ = T3 at H3 ⊢
  generalize (rd st2 SZ) = st3 at H3
  generalize rawT st1.1 4 = T2 at H2 ⊢
  generalize ((getN (by_ (rawT s 4)) : Nat) : Int) = src at H1 ⊢
  have K1 := Lib.hid H1
  have K2 := Lib.hid H2
  have K3 := Lib.hid H3
  have K4 := Lib.hid H4
  have hOf := Lib.hid (fun W => of_any s W)
  clear H1 H2 H3 H4
  have hX1 := pc_new w ⟨count, kind, s⟩
  have hX2 := hX1.alloc (.cells #[.int .i64 0, .int .u32 0, .string { data := #[] }, .string { data := #[] }] 76)
  have hY2 := atC_new 76 (w.alloc (.cells #[.int .i64 count, .int .i64 kind, .string s] 33)) #[.int .i64 0, .int .u32 0, .string { data := #[] }, .string { data := #[] }]
  have hb2 : Below w.heap.size w ((w.alloc (.cells #[.int .i64 count, .int .i64 kind, .string s] 33)).alloc (.cells #[.int .i64 0, .int .u32 0, .string { data := #[] }, .string { data := #[] }] 76)) := by go_grown
  have hne : (w.alloc (.cells #[.int .i64 count, .int .i64 kind, .string s] 33)).heap.size = w.heap.size + 1 := by simp
  rw [hne] at hY2
  clear hX1 hne
  go_enter Try.func84, Try.ntmps84
  go_upto_region 1 with fail
  generalize (w.alloc (.cells #[.int .i64 count, .int .i64 kind, .string s] 33)).alloc (.cells #[.int .i64 0, .int .u32 0, .string { data := #[] }, .string { data := #[] }] 76) = w2 at hX2 hY2 hb2 ⊢
  have hgB : w.heap.size ≤ w.heap.size + 1 := by omega
  have hgn : w.heap.size ≠ w.heap.size + 1 := by omega
  generalize hg2 : w.heap.size + 1 = g2 at hY2 hgB hgn ⊢
  generalize hg : w.heap.size = g at hX2 hb2 hgB hgn ⊢
  have HG := Lib.hid hg
  clear hg2 hg
  obtain ⟨x0, x1, x2, _⟩ := pcAt_S hX2
  go_wp2_with fail
  refine (hOf.out _).mono ?_
  rintro e w3 ⟨rfl, rfl⟩
  have hI3 := inAt_new s w2
  have hX3 := hX2.alloc (.cells #[.string s, .int .i64 0] 189)
  have hY3 := hY2.alloc (.cells #[.string s, .int .i64 0] 189)
  have hb3 := hb2.alloc (by have := hX2.lt; omega) (.cells #[.string s, .int .i64 0] 189)
  have hnb : g2 < w2.heap.size := hY2.lt
  go_upto_region 2 with fail
  generalize w2.alloc (.cells #[.string s, .int .i64 0] 189) = w4 at hI3 hX3 hY3 hb3 ⊢
  generalize w2.heap.size = n at hI3 hnb ⊢
  clear hX2 hY2 hb2 x0 x1 x2
  obtain ⟨x0, x1, x2, _⟩ := pcAt_S hX3
  have hg4 : g < w4.heap.size := hX3.lt
  have hn4 : n < w4.heap.size := hI3.lt
  have hI4 := hI3.alloc (.cells #[.int .i64 0, .int .u32 0, .string { data := #[] }, .string { data := #[] }] 76)
  have hX4 := hX3.alloc (.cells #[.int .i64 0, .int .u32 0, .string { data := #[] }, .string { data := #[] }] 76)
  have hY4 := hY3.alloc (.cells #[.int .i64 0, .int .u32 0, .string { data := #[] }, .string { data := #[] }] 76)
  have hR4 := atC_new 76 w4 #[.int .i64 0, .int .u32 0, .string { data := #[] }, .string { data := #[] }]
  have hb4 := hb3.alloc (by omega) (.cells #[.int .i64 0, .int .u32 0, .string { data := #[] }, .string { data := #[] }] 76)
  go_cut [4] (fun z4 wx => ∃ r, z4 = .pointer (some ⟨r, 0, none⟩) ∧ n < r ∧ AtC 76 wx r #[.int .i64 count, .int .u32 src, .string T2, .string { data := #[] }] ∧ InAt wx n st2.1 st2.2 ∧ AtC 76 wx g2 #[.int .i64 0, .int .u32 0, .string { data := #[] }, .string { data := #[] }] ∧ Below g w wx)
  case first =>
    go_region_law (first | (go_simp; go_at_call 94; refine (K1.out n _ (show InAt w4.drew n _ _ from hI3)).mono ?_; rintro e w5 ⟨rfl, hI5, ho5⟩; have hX5 : PcAt w5 g ⟨count, kind, s⟩ := (ho5.block g (by omega)).trans hX3; obtain ⟨_, _, _, _⟩ := pcAt_S hX5; have hY5 : AtC 76 w5 g2 #[.int .i64 0, .int .u32 0, .string { data := #[] }, .string { data := #[] }] := (ho5.block g2 (by omega)).trans hY3; have hb5 : Below g w w5 := hb3.drew.trans (ho5.below (by omega)); have hn5 := hI5.lt; have hg5 := hX5.lt) | (go_simp; go_at_call 94; refine (K1.out n _ (show InAt (w4.alloc (.cells #[.int .i64 0, .int .u32 0, .string { data := #[] }, .string { data := #[] }] 76)).drew n _ _ from hI4)).mono ?_; rintro e w6 ⟨rfl, hI6, ho6⟩; have hX6 : PcAt w6 g ⟨count, kind, s⟩ := (ho6.block g (by omega)).trans hX4; obtain ⟨_, _, _, _⟩ := pcAt_S hX6; have hY6 : AtC 76 w6 g2 #[.int .i64 0, .int .u32 0, .string { data := #[] }, .string { data := #[] }] := (ho6.block g2 (by omega)).trans hY4; have hR6 : AtC 76 w6 w4.heap.size #[.int .i64 0, .int .u32 0, .string { data := #[] }, .string { data := #[] }] := (ho6.block w4.heap.size (by omega)).trans hR4; obtain ⟨_, _, _, _⟩ := hR6.cells4; obtain ⟨_, _, _, _⟩ := hR6.frees4; have hb6 : Below g w w6 := hb4.drew.trans (ho6.below (by omega)); have hn6 := hI6.lt; have hg6 := hX6.lt; have hr6 := hR6.lt) | (go_simp; go_at_call 107; refine (K2.out n _ (show InAt w5 n _ _ from hI5)).mono ?_; rintro e w7 ⟨rfl, hI7, ho7⟩; have hX7 : PcAt w7 g ⟨count, kind, s⟩ := (ho7.block g (by omega)).trans hX5; obtain ⟨_, _, _, _⟩ := pcAt_S hX7; have hY7 : AtC 76 w7 g2 #[.int .i64 0, .int .u32 0, .string { data := #[] }, .string { data := #[] }] := (ho7.block g2 (by omega)).trans hY5; have hb7 : Below g w w7 := hb5.trans (ho7.below (by omega)); have hn7 := hI7.lt; have hg7 := hX7.lt) | (go_simp; go_at_call 107; refine (K2.out n _ (show InAt w6 n _ _ from hI6)).mono ?_; rintro e w8 ⟨rfl, hI8, ho8⟩; have hX8 : PcAt w8 g ⟨count, kind, s⟩ := (ho8.block g (by omega)).trans hX6; obtain ⟨_, _, _, _⟩ := pcAt_S hX8; have hY8 : AtC 76 w8 g2 #[.int .i64 0, .int .u32 0, .string { data := #[] }, .string { data := #[] }] := (ho8.block g2 (by omega)).trans hY6; have hR8 : AtC 76 w8 w4.heap.size #[.int .i64 0, .int .u32 0, .string { data := #[] }, .string { data := #[] }] := (ho8.block w4.heap.size (by omega)).trans hR6; obtain ⟨_, _, _, _⟩ := hR8.cells4; obtain ⟨_, _, _, _⟩ := hR8.frees4; have hb8 : Below g w w8 := hb6.trans (ho8.below (by omega)); have hn8 := hI8.lt; have hg8 := hX8.lt; have hr8 := hR8.lt) | (go_simp; go_at_call 107; refine (K2.out n _ (show InAt (w5.alloc (.cells #[.int .i64 0, .int .u32 0, .string { data := #[] }, .string { data := #[] }] 76)) n _ _ from hI5.alloc _)).mono ?_; rintro e w9 ⟨rfl, hI9, ho9⟩; have hX9 : PcAt w9 g ⟨count, kind, s⟩ := (ho9.block g (by omega)).trans (hX5.alloc (.cells #[.int .i64 0, .int .u32 0, .string { data := #[] }, .string { data := #[] }] 76)); obtain ⟨_, _, _, _⟩ := pcAt_S hX9; have hY9 : AtC 76 w9 g2 #[.int .i64 0, .int .u32 0, .string { data := #[] }, .string { data := #[] }] := (ho9.block g2 (by omega)).trans (hY5.alloc (.cells #[.int .i64 0, .int .u32 0, .string { data := #[] }, .string { data := #[] }] 76)); have hR9 : AtC 76 w9 w5.heap.size #[.int .i64 0, .int .u32 0, .string { data := #[] }, .string { data := #[] }] := (ho9.block w5.heap.size (by omega)).trans (atC_new 76 w5 #[.int .i64 0, .int .u32 0, .string { data := #[] }, .string { data := #[] }]); obtain ⟨_, _, _, _⟩ := hR9.cells4; obtain ⟨_, _, _, _⟩ := hR9.frees4; have hb9 : Below g w w9 := (hb5.alloc (by omega) (.cells #[.int .i64 0, .int .u32 0, .string { data := #[] }, .string { data := #[] }] 76)).trans (ho9.below (by omega)); have hn9 := hI9.lt; have hg9 := hX9.lt; have hr9 := hR9.lt))
    all_goals
      go_wp2_with fail
      go_meet
      first
        | (have hoz := store4_only w8 w4.heap.size (.int .i64 count) (.int .u32 src) (.string T2) (.string { data := #[] })
           exact ⟨w4.heap.size, rfl, by omega, at4_store _ _ _ _ hR8, hI8.only (by omega) hoz, hY8.only (by omega) hoz, hb8.trans (hoz.below (by omega))⟩)
        | (have hoz := store4_only w9 w5.heap.size (.int .i64 count) (.int .u32 src) (.string T2) (.string { data := #[] })
           exact ⟨w5.heap.size, rfl, by omega, at4_store _ _ _ _ hR9, hI9.only (by omega) hoz, hY9.only (by omega) hoz, hb9.trans (hoz.below (by omega))⟩)
        | (have q7 := hb7
           exact ⟨w7.heap.size, rfl, by omega, atC_new _ _ _, hI7.alloc _, hY7.alloc _, hb7.alloc (by omega) _⟩)
  case rest =>
  obtain ⟨r, rfl, hnr, hR5, hI5, hY5, hb5⟩ := hcut
  rename World => w5
  clear hI3 hX3 hY3 hb3 hI4 hX4 hY4 hR4 hb4 hg4 hn4 x0 x1 x2 K1 K2 hOf
  obtain ⟨r0, r1, r2, r3⟩ := hR5.cells4
  go_wp2_with fail
  refine (K4.out n _ hI5).mono ?_
  rintro e w' ⟨rfl, rfl⟩
  go_wp2_with fail
  refine (K3.out n _ hI5).mono ?_
  rintro e w6 ⟨rfl, hI6, ho6⟩
  have hR6 := hR5.only (by omega) ho6
  have hY6 := hY5.only (by omega) ho6
  have hb6 := hb5.trans (ho6.below (by omega))
  clear hR5 hI5 hY5 hb5 ho6 hI6 r0 r1 r2 r3
  have f3 := hR6.free 3
  obtain ⟨r0, r1, r2, r3⟩ := hR6.cells4
  have hR7 := at4_set3 hR6 (.string T3)
  have ho7 := (Only.refl r w6).setCell 3 (.string T3)
  have hY7 := hY6.only (b := r) (by omega) ho7
  have hb7 := hb6.trans (ho7.below (by omega))
  go_upto_region 4 with fail
  generalize w6.setCell ⟨r, 3, none⟩ (.string T3) = w7 at hR7 hY7 hb7 ⊢
  clear hR6 hY6 hb6 ho7 f3 r0 r1 r2 r3
  obtain ⟨r0, r1, r2, r3⟩ := hR7.cells4
  obtain ⟨y0, y1, y2, y3⟩ := hY7.cells4
  obtain ⟨f0, f1, f2, f3⟩ := hY7.frees4
  have hz8 := at4_store (.int .i64 count) (.int .u32 src) (.string T2) (.string T3) hY7
  have hoz := store4_only w7 g2 (.int .i64 count) (.int .u32 src) (.string T2) (.string T3)
  have hbz := hb7.trans (hoz.below hgB)
  go_wp2_with fail
  generalize (((w7.setCell ⟨g2, 0, none⟩ (.int .i64 count)).setCell ⟨g2, 1, none⟩ (.int .u32 src)).setCell ⟨g2, 2, none⟩ (.string T2)).setCell ⟨g2, 3, none⟩ (.string T3) = wz at hz8 hoz hbz ⊢
  obtain ⟨d0, d1, d2, d3⟩ := hz8.cells4
  clear f0 f1 f2 f3 y0 y1 y2 y3 r0 r1 r2 r3
  refine bodyPost_ret (v := .agg #[.int .i64 count, .int .u32 src, .string T2, .string T3]) (by simp [results, Try.results84, go_sem, d0, d1, d2, d3]) rfl ⟨rfl, by rw [HG.out]; exact hbz⟩
end Go.Proofs.Ytjoikidnnhjogaa

