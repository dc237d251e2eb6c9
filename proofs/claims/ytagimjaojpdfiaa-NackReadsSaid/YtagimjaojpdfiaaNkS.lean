/- nack: same, Ask; pairs name just their numbers. -/
import Derived.Test.YtagimjaojpdfiaaNkQ
namespace Go.Proofs.Ytagimjaojpdfiaa
open Go.RowKit
set_option linter.unusedVariables false
theorem cat_inv (zs : List Int) (hz : ∀ n ∈ zs, 0 ≤ n ∧ n < 65536) : ∀ k, k ≤ zs.length → (∀ y ∈ catN (prAt zs k).1, y ∈ zs) ∧ (∀ x ∈ zs, (prAt zs k).2 x = false → x ∈ catN (prAt zs k).1)
  | 0, _ => by
    have h0 : prAt zs 0 = ([], fun x => zs.contains x) := rfl
    rw [h0]
    refine ⟨fun y hy => by simp [catN] at hy, fun x hx h => ?_⟩
    simp only at h
    rw [← Bool.not_eq_true, List.contains_iff_mem] at h
    exact absurd hx h
  | k + 1, hk => by
    obtain ⟨c1, c2⟩ := cat_inv zs hz k (by omega)
    have hI := (prInv zs hz k (by omega)).sub
    have hs := prAt_succ zs k (by omega)
    generalize zs[k]?.getD 0 = n at hs
    generalize prAt zs k = PA at hs c1 c2 hI
    obtain ⟨out, S⟩ := PA
    simp only at c1 c2 hI
    unfold stp at hs
    try simp only at hs
    by_cases hS : S n = true
    · rw [if_pos hS] at hs
      rw [hs]
      have hc : catN (out ++ [(n, blp S n 16)]) = catN out ++ nums n (blp S n 16) 16 := catN_snoc out _
      simp only [hc, List.mem_append]
      refine ⟨fun y hy => ?_, fun x hx h => ?_⟩
      · rcases hy with hy | hy
        · exact c1 y hy
        · rcases (nums_mem n _ y 16).1 hy with rfl | ⟨i, h1, h2, rfl⟩
          · exact hI _ hS
          · exact hI _ ((blp_bit S n 16 i h1).1 h2)
      · cases hx2 : S x
        · exact .inl (c2 x hx hx2)
        · rw [hx2] at h
          right
          simpa using h
    · rw [if_neg hS] at hs
      rw [hs]
      exact ⟨c1, c2⟩
theorem cat_mem (zs : List Int) (hz : ∀ n ∈ zs, 0 ≤ n ∧ n < 65536) (x : Int) : x ∈ catN (prs zs) ↔ x ∈ zs := by
  obtain ⟨c1, c2⟩ := cat_inv zs hz zs.length (Nat.le_refl _)
  refine ⟨fun h => c1 x h, fun h => c2 x h ?_⟩
  exact (prInv zs hz zs.length (Nat.le_refl _)).gone x (by rw [List.take_length]; exact h)
/-- At a there are the document's pairs. -/
def RdR (W : World) (a : Option Addr) (l : List (Int × Nat)) : Prop := l = [] ∨ ∃ g, a = some ⟨g, 0, none⟩ ∧ g < W.heap.size ∧ ∀ i u, (prR l)[i]? = some u → W.cell? ⟨g, i, none⟩ = some u
theorem RdR.later {W W' : World} {a : Option Addr} {l : List (Int × Nat)} (h : RdR W a l) (hb : Below W.heap.size W W') : RdR W' a l := by
  rcases h with h | ⟨g, ha, hg, hc⟩
  · exact .inl h
  · exact .inr ⟨g, ha, Nat.lt_of_lt_of_le hg hb.size, fun i u hu => (hb.cell (p := ⟨g, i, none⟩) hg).trans (hc i u hu)⟩
theorem own_prR {W : World} {B : Nat} {T : TypeId} {v : Value} {l : List (Int × Nat)} (h : W.ownsRow B T 2 v l.length (prR l)) : ∃ a c, v = .slice a l.length c ∧ l.length ≤ c ∧ RdR W a l := by
  rcases Nat.eq_zero_or_pos l.length with h0 | h0
  · rcases h.2 with ⟨rfl, _⟩ | ⟨g, cap, cur, rfl, _, _, h1, _⟩
    · exact ⟨none, 0, by rw [h0], by omega, .inl (List.eq_nil_of_length_eq_zero h0)⟩
    · exact ⟨_, cap, rfl, h1, .inl (List.eq_nil_of_length_eq_zero h0)⟩
  · obtain ⟨g, cap, rfl, h1, h2, h3⟩ := own_cells h h0
    exact ⟨_, cap, rfl, h1, .inr ⟨g, rfl, h2, h3⟩⟩
theorem prR_at (l : List (Int × Nat)) : ∀ k, k < l.length → (prR l)[k * 2]? = some (.int .i64 (l[k]?.getD (0, 0)).1) ∧ (prR l)[k * 2 + 1]? = some (.int .i64 ((l[k]?.getD (0, 0)).2 : Int)) := by
  induction l with
  | nil => intro k h; simp at h
  | cons p l ih =>
    intro k h
    have e : prR (p :: l) = .int .i64 p.1 :: .int .i64 (p.2 : Int) :: prR l := by simp [prR]
    rw [e]
    cases k with
    | zero => simp
    | succ k =>
      have := ih k (by simpa using h)
      rw [show (k + 1) * 2 = k * 2 + 1 + 1 from by omega]
      simpa using this
theorem RdR.at {W : World} {a : Option Addr} {l : List (Int × Nat)} (h : RdR W a l) {k : Nat} (hk : k < l.length) : ∃ g, a = some ⟨g, 0, none⟩ ∧ g < W.heap.size ∧ W.cell? ⟨g, k * 2, none⟩ = some (.int .i64 (l[k]?.getD (0, 0)).1) ∧ W.cell? ⟨g, k * 2 + 1, none⟩ = some (.int .i64 ((l[k]?.getD (0, 0)).2 : Int)) := by
  rcases h with h | ⟨g, ha, hg, hc⟩
  · simp [h] at hk
  · obtain ⟨h1, h2⟩ := prR_at l k hk
    exact ⟨g, ha, hg, hc _ _ h1, hc _ _ h2⟩
set_option maxHeartbeats 1600000 in
theorem sameP_any (l : List (Int × Nat)) (a a2 : Option Addr) (c c2 : Nat) (w : World) (hr : RdR w a l) (hr2 : RdR w a2 l) (hl : l.length ≤ 1000000) (hc : l.length ≤ c) (hc2 : l.length ≤ c2) :
    Calls Try.prog 16 #[.slice a l.length c, .slice a2 l.length c2] w fun e w' => e = .returned (.bool true) ∧ Below w.heap.size w w' := by
  go_enter Try.func16, Try.ntmps16
  go_wp2
  go_loopw [13] (fun i wr => ∃ k : Nat, k ≤ l.length ∧ i = .int .i64 k ∧ Below w.heap.size w wr) (fun i _ => l.length - (intOf i).toNat)
  case atStart => exact ⟨0, Nat.zero_le _, rfl, Below.refl _ _⟩
  case round =>
    obtain ⟨k, hk, rfl, hb⟩ := hrel
    by_cases hlt : k < l.length
    · obtain ⟨g, rfl, hg, c0, c1⟩ := (hr.later hb).at hlt
      obtain ⟨g2, rfl, hg2, d0, d1⟩ := (hr2.later hb).at hlt
      generalize (l[k]?.getD (0, 0)) = pr at c0 c1 d0 d1
      obtain ⟨x, y⟩ := pr
      simp only at c0 c1 d0 d1
      have hk0 : (0 : Int) ≤ (k : Int) := by omega
      have hkl : (k : Int) < (l.length : Int) := by omega
      clear hr hr2
      go_upto_region 6 with fail
      go_quiet (fail)
      have hbn := below_drewN hb nq
      go_wp2
      go_roundw
      case rel => exact ⟨k + 1, by omega, by go_num, hbn⟩
      case measure => simp [intOf]; omega
    · obtain rfl : k = l.length := by omega
      go_wp2
      go_ret
      exact ⟨rfl, hb⟩
end Go.Proofs.Ytagimjaojpdfiaa
