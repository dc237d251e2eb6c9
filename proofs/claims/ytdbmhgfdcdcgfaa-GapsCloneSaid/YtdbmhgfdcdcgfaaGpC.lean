/- gaps: New, Given, Wanting, Next. -/
import Derived.Test.YtdbmhgfdcdcgfaaGpB
namespace Go.Proofs.Ytdbmhgfdcdcgfaa
open Go.RowKit
set_option linter.unusedVariables false
set_option linter.unusedSimpArgs false
theorem gpGiven_q {w : World} {base gg : Nat} {c : GC} {cm : Bool} {gr : Int} {v : Value} {l : List GW} {gv : Int} (h : GIn w base gg c cm gr v l gv) : Calls Try.prog 26 #[.pointer (some ⟨gg, 0, none⟩)] w fun e w' => e = .returned (.int .i64 gv) ∧ w' = w := by
  obtain ⟨_, _, _, _, _, _, _, _⟩ := h.at8.cells
  clear h
  go_enter Try.func26, Try.ntmps26
  go_wp2
  go_ret
  exact ⟨rfl, rfl⟩
set_option maxRecDepth 100000 in
set_option maxHeartbeats 1600000 in
theorem gpNew_any (c : GC) (w : World) : Calls Try.prog 8 #[c.val] w fun e w' => ∃ gg, e = .returned (.pointer (some ⟨gg, 0, none⟩)) ∧ GIn w' w.heap.size gg c.clip false 0 (.slice none 0 0) [] 0 ∧ Below w.heap.size w w' := by
  obtain ⟨m, t, f, a⟩ := c
  have HC := Lib.hid (fun W => gpClip_any ⟨m, t, f, a⟩ W)
  have hok := gcOk_clip ⟨m, t, f, a⟩
  generalize (GC.clip ⟨m, t, f, a⟩) = cc at *
  obtain ⟨m', t', f', a'⟩ := cc
  simp only [GC.val] at *
  have hX := at4_new 28 w w.heap.size (.int .i64 m) (.int .i64 t) (.int .i64 f) (.int .i64 a) rfl
  have hb : Below w.heap.size w (w.alloc (.cells #[.int .i64 m, .int .i64 t, .int .i64 f, .int .i64 a] 28)) := (Below.refl _ _).alloc (Nat.le_refl _) _
  go_enter Try.func8, Try.ntmps8
  go_upto_region 1 with fail
  generalize (w.alloc (.cells #[.int .i64 m, .int .i64 t, .int .i64 f, .int .i64 a] 28)) = w2 at *
  generalize hg0 : w.heap.size = g0 at *
  have HG := Lib.hid hg0
  clear hg0
  obtain ⟨_, _, _, _⟩ := hX.cells
  have hsz := hb.size
  go_wp2_with fail
  refine (HC.out _).mono ?_
  rintro e w3 ⟨rfl, hk3⟩
  have hb3 := hb.trans (hk3.mono (by rw [← HG.out]; have := HG.out; omega))
  have hsz3 := hb3.size
  go_wp2_with fail
  go_ret
  rw [HG.out] at hsz3
  exact ⟨_, rfl, ⟨by rw [HG.out]; exact hsz3, at8_new _ _ _ _ _ _ _ _ _ _ _ rfl, ownE_nil _ _ _ _, hok, by simp; exact Int.le_trans (by decide) hok.1.1, List.Pairwise.nil, by decide, by simp, by simp⟩, by rw [HG.out]; exact hb3.alloc hsz3 _⟩
/-- The numbers of packets. -/
def gpS (l : List GW) : List Int := l.map (fun r => r.n)
theorem gpS_take (l : List GW) (k : Nat) (r : GW) (h : l[k]? = some r) : (gpS (l.take (k + 1))).map (Value.int .i64) = (gpS (l.take k)).map (Value.int .i64) ++ [.int .i64 r.n] := by
  unfold gpS
  rw [List.map_map, List.map_map]
  exact take_mapG _ l k r h
theorem gpS_len (l : List GW) : (gpS l).length = l.length := by simp [gpS]
set_option maxRecDepth 100000 in
set_option maxHeartbeats 1600000 in
theorem gpWanting_any {w : World} {base gg : Nat} {c : GC} {cm : Bool} {gr : Int} {v : Value} {l : List GW} {gv : Int} (h : GIn w base gg c cm gr v l gv) :
    Calls Try.prog 17 #[.pointer (some ⟨gg, 0, none⟩)] w fun e w' => ∃ v', e = .returned v' ∧ OwnE w' w.heap.size 3 1 v' l.length ((gpS l).map (Value.int .i64)) ∧ Below w.heap.size w w' := by
  obtain ⟨i0, hi, hz0, hz1, hz2⟩ := info_parts info64g
  have hsm := h.small
  obtain ⟨a, cap, rfl, _, _, _, hrd⟩ := h.own.rdg
  have HR1 := Lib.hid (fun W (hb : Below w.heap.size w W) => hrd.later hb)
  have H4 := Lib.hid (fun W (hb : Below w.heap.size w W) => (h.at8.later hb).cells.2.2.2.2.2.2.1)
  have HT := Lib.hid (gpS_take l)
  have HL := Lib.hid (fun k => gpS_len (l.take k))
  obtain ⟨_, _, _, _, _, _, _, _⟩ := h.at8.cells
  clear h hrd
  go_enter Try.func17, Try.ntmps17
  go_wp2_with (at_make; refine wpList_make_full w rfl _ _ 45 rfl w.heap.size 3 i0 (.int .i64 0) 1 Try.underlying45 hi hz0 hz1 .i64 .i64 _ _ l.length rfl rfl rfl rfl ?_ ?_ (Nat.le_refl _) ?_)
  · omega
  · unfold maxLen; omega
  intro w2 hown hgrow
  rw [madeIntsG] at hown
  have hO2 := ownE_of hown
  have hb2 : Below w.heap.size w w2 := (Below.refl _ _).grown hgrow (Nat.le_refl _) (by intro k hk; cases hk)
  have hc2 := H4.out w2 hb2
  generalize hgs : w.heap.size = gs at hO2 hb2 ⊢
  have HG := Lib.hid hgs
  clear hgrow hown hgs
  go_wp2_with fail
  go_loopw [17] (fun i wr => ∃ k : Nat, k ≤ l.length ∧ i = .int .i64 k ∧ OwnE wr gs 3 1 (.slice (some ⟨gs, 0, none⟩) l.length l.length) l.length ((gpS (l.take k)).map (Value.int .i64) ++ List.replicate (l.length - k) (.int .i64 0)) ∧ Below gs w wr) (fun i _ => l.length - (intOf i).toNat)
  case atStart => exact ⟨0, Nat.zero_le _, rfl, hO2, hb2⟩
  case round =>
    obtain ⟨k, hk, rfl, hO, hb⟩ := hrel
    clear hO2 hb2 hc2
    by_cases hlt : k < l.length
    · obtain ⟨r, hr⟩ : ∃ r, l[k]? = some r := ⟨_, List.getElem?_eq_getElem hlt⟩
      obtain ⟨g, off, rfl, c0, c1, c2, c3⟩ := HR1.out wr (by rw [HG.out]; exact hb) k r hr
      have HT1 := Lib.hid (HT.out k r hr)
      have hl1 := HL.out k
      rw [List.length_take, Nat.min_eq_left (by omega)] at hl1
      obtain ⟨n, at_, kk⟩ := r
      simp only at c0 c1 c2 c3 HT1
      generalize wtR c.a kk = wt at *
      have hX := at4_new 69 wr wr.heap.size (.int .i64 n) (.int .i64 at_) (.int .i64 wt) (.int .i64 kk) rfl
      have hO3 := hO.later (W' := wr.alloc (.cells #[.int .i64 n, .int .i64 at_, .int .i64 wt, .int .i64 kk] 69)) ((Below.refl _ _).alloc (Nat.le_refl _) _)
      have hb3 := hb.alloc (show gs ≤ wr.heap.size by have := hb.size; have := HG.out; omega) (.cells #[.int .i64 n, .int .i64 at_, .int .i64 wt, .int .i64 kk] 69)
      clear hr
      go_upto_region 5 with fail
      generalize wr.alloc (.cells #[.int .i64 n, .int .i64 at_, .int .i64 wt, .int .i64 kk] 69) = w3 at hX hO3 hb3 ⊢
      generalize wr.heap.size = g3 at hX ⊢
      clear hO hb c0 c1 c2 c3
      obtain ⟨_, _, _, _⟩ := hX.cells
      have hll : ((gpS (l.take k)).map (Value.int .i64) ++ List.replicate (l.length - k) (Value.int .i64 0)).length = l.length := by rw [List.length_append, List.length_replicate, List.length_map, hl1]; omega
      have hl2 : ((gpS (l.take k)).map (Value.int .i64)).length = k := by rw [List.length_map, hl1]
      generalize (gpS (l.take k)).map (Value.int .i64) = A at *
      obtain ⟨gz, oz, cz, ez, _, _, _, _, hcz⟩ := hO3.row (by omega)
      cases ez
      obtain ⟨hw1, hw2⟩ := hcz k ((A ++ List.replicate (l.length - k) (Value.int .i64 0))[k]'(by omega)) (List.getElem?_eq_getElem _)
      have hset := hO3.setAt k (.int .i64 n) (by omega)
      obtain ⟨q, hq⟩ : ∃ q, l.length - k = q + 1 := ⟨l.length - k - 1, by omega⟩
      have hset2 : OwnE (w3.setCell ⟨gs, 0 + k, none⟩ (.int .i64 n)) gs 3 1 (.slice (some ⟨gs, 0, none⟩) l.length l.length) l.length ((gpS (l.take (k + 1))).map (Value.int .i64) ++ List.replicate (l.length - (k + 1)) (.int .i64 0)) := by
        have e : (A ++ List.replicate (l.length - k) (Value.int .i64 0)).set k (.int .i64 n) = (gpS (l.take (k + 1))).map (Value.int .i64) ++ List.replicate (l.length - (k + 1)) (.int .i64 0) := by
          have h2 := set_restG A q (.int .i64 0) (.int .i64 n)
          rw [hl2] at h2
          rw [hq, h2, HT1.out]
          congr 2
          omega
        rw [← e]
        exact hset
      rw [Nat.zero_add] at hset2 hw1 hw2
      have hb4 := hb3.trans (((Only.refl gs w3).setCell k (.int .i64 n)).below (Nat.le_refl _))
      generalize (A ++ List.replicate (l.length - k) (Value.int .i64 0))[k]'_ = old at hw1
      clear hset hcz hO3 hb3 hq hll hl2 hl1
      go_wp2_with fail
      go_roundw
      case rel => exact ⟨k + 1, by omega, by go_num, hset2, hb4⟩
      case measure => simp [intOf]; omega
    · obtain rfl : k = l.length := by omega
      rw [List.take_length, Nat.sub_self, List.replicate_zero, List.append_nil] at hO
      go_wp2_with fail
      go_ret
      exact ⟨_, rfl, by rw [HG.out]; exact hO, by rw [HG.out]; exact hb⟩
end Go.Proofs.Ytdbmhgfdcdcgfaa
