/- Subflow: what the document's ToLines finds (plain). -/
import Derived.Test.YtjoikidnnhjogaaMSfU
import Derived.Test.YtjoikidnnhjogaaMSfT
namespace Go.Proofs.Ytjoikidnnhjogaa
open Go.RowKit
set_option linter.unusedVariables false
/-- The line that stands at a place. -/
def liAt (s : ByteArray) (a : Nat) : LI := ⟨(fB s a : Nat), (fB s (a + 1) : Nat), sgnS (gN s (a + 4) (a + 7) : Nat), (gN s (a + 8) (a + 12) : Nat), (gN s (a + 12) (a + 16) : Nat), (gN s (a + 16) (a + 20) : Nat), (gN s (a + 20) (a + 24) : Nat), (gN s (a + 24) (a + 28) : Nat)⟩
def dLis (s : ByteArray) (n : Nat) : List LI := (List.range n).map (fun i => liAt s (4 + 28 * i))
def liD (s : ByteArray) (last : Int) (a : Nat) : Prop := last < (fB s a : Nat) ∧ fB s a ≤ 15 ∧ fB s (a + 2) = 0 ∧ fB s (a + 3) = 0 ∧ fB s (a + 7) = 0
instance liD_dec (s : ByteArray) (n : Int) (a : Nat) : Decidable (liD s n a) := by unfold liD; infer_instance
def prevE (s : ByteArray) : Nat → Int
  | 0 => 0
  | k + 1 => (fB s (4 + 28 * k) : Nat)
def lisD (s : ByteArray) (n : Nat) : Prop := ∀ k, k < n → liD s (prevE s k) (4 + 28 * k)
instance lisD_dec (s : ByteArray) (n : Nat) : Decidable (lisD s n) := by unfold lisD; infer_instance
theorem dLis_len (s : ByteArray) (n : Nat) : (dLis s n).length = n := by simp [dLis]
theorem dLis_get (s : ByteArray) (n k : Nat) (h : k < n) : (dLis s n)[k]?.getD zeroLI = liAt s (4 + 28 * k) := by simp [dLis, h]
theorem dLis_prev (s : ByteArray) (n : Nat) : ∀ k, k ≤ n → prevL (dLis s n) k = prevE s k
  | 0, _ => rfl
  | k + 1, h => by
    show ((dLis s n)[k]?.getD zeroLI).path = _
    rw [dLis_get s n k (by omega)]
    rfl
theorem gR_st (s : ByteArray) (a m : Nat) (h : a + m ≤ s.size) : gR (stA s a) (m : Nat) = ((gN s a (a + m) : Nat) : Int) := by unfold gR; rw [raw_at' s a m h]
theorem liRd_st (s : ByteArray) (a : Nat) (h : a + 28 ≤ s.size) : liRd (stA s a) = liAt s a ∧ liNx (stA s a) = stA s (a + 28) := by
  have e0 : liS (stA s a) 0 = stA s a := rfl
  have e1 : liS (stA s a) 1 = stA s (a + 1) := by rw [show liS (stA s a) 1 = rd (liS (stA s a) 0) 1 from rfl, e0]; exact rd_at' s a 1 (by omega)
  have e2 : liS (stA s a) 2 = stA s (a + 2) := by rw [show liS (stA s a) 2 = rd (liS (stA s a) 1) 1 from rfl, e1]; exact rd_at' s (a + 1) 1 (by omega)
  have e3 : liS (stA s a) 3 = stA s (a + 4) := by rw [show liS (stA s a) 3 = rd (liS (stA s a) 2) 2 from rfl, e2]; exact rd_at' s (a + 2) 2 (by omega)
  have e4 : liS (stA s a) 4 = stA s (a + 7) := by rw [show liS (stA s a) 4 = rd (liS (stA s a) 3) 3 from rfl, e3]; exact rd_at' s (a + 4) 3 (by omega)
  have e5 : liS (stA s a) 5 = stA s (a + 8) := by rw [show liS (stA s a) 5 = rd (liS (stA s a) 4) 1 from rfl, e4]; exact rd_at' s (a + 7) 1 (by omega)
  have e6 : liS (stA s a) 6 = stA s (a + 12) := by rw [show liS (stA s a) 6 = rd (liS (stA s a) 5) 4 from rfl, e5]; exact rd_at' s (a + 8) 4 (by omega)
  have e7 : liS (stA s a) 7 = stA s (a + 16) := by rw [show liS (stA s a) 7 = rd (liS (stA s a) 6) 4 from rfl, e6]; exact rd_at' s (a + 12) 4 (by omega)
  have e8 : liS (stA s a) 8 = stA s (a + 20) := by rw [show liS (stA s a) 8 = rd (liS (stA s a) 7) 4 from rfl, e7]; exact rd_at' s (a + 16) 4 (by omega)
  have e9 : liS (stA s a) 9 = stA s (a + 24) := by rw [show liS (stA s a) 9 = rd (liS (stA s a) 8) 4 from rfl, e8]; exact rd_at' s (a + 20) 4 (by omega)
  have e10 : liS (stA s a) 10 = stA s (a + 28) := by rw [show liS (stA s a) 10 = rd (liS (stA s a) 9) 4 from rfl, e9]; exact rd_at' s (a + 24) 4 (by omega)
  have g0 : gR (stA s a) 1 = ((fB s a : Nat) : Int) := by rw [← gN_1 s a (by omega)]; exact gR_st s a 1 (by omega)
  have g1 : gR (stA s (a + 1)) 1 = ((fB s (a + 1) : Nat) : Int) := by rw [← gN_1 s (a + 1) (by omega)]; exact gR_st s (a + 1) 1 (by omega)
  have g3 : gR (stA s (a + 4)) 3 = ((gN s (a + 4) (a + 7) : Nat) : Int) := gR_st s (a + 4) 3 (by omega)
  have g5 : gR (stA s (a + 8)) 4 = ((gN s (a + 8) (a + 12) : Nat) : Int) := gR_st s (a + 8) 4 (by omega)
  have g6 : gR (stA s (a + 12)) 4 = ((gN s (a + 12) (a + 16) : Nat) : Int) := gR_st s (a + 12) 4 (by omega)
  have g7 : gR (stA s (a + 16)) 4 = ((gN s (a + 16) (a + 20) : Nat) : Int) := gR_st s (a + 16) 4 (by omega)
  have g8 : gR (stA s (a + 20)) 4 = ((gN s (a + 20) (a + 24) : Nat) : Int) := gR_st s (a + 20) 4 (by omega)
  have g9 : gR (stA s (a + 24)) 4 = ((gN s (a + 24) (a + 28) : Nat) : Int) := gR_st s (a + 24) 4 (by omega)
  unfold liRd liNx liAt
  rw [e0, e1, e3, e5, e6, e7, e8, e9, e10, g0, g1, g3, g5, g6, g7, g8, g9]
  exact ⟨rfl, rfl⟩
theorem lisRd_st (s : ByteArray) (n : Nat) (hs : s.size = 4 + 28 * n) : ∀ (m j : Nat), j ≤ n → lisRd m (stA s (4 + 28 * j)) = (List.range (min m (n - j))).map (fun i => liAt s (4 + 28 * (j + i)))
  | 0, j, _ => by simp [lisRd]
  | m + 1, j, hj => by
    have hz : (stA s (4 + 28 * j)).1.size = 28 * (n - j) := by
      show (s.extract (4 + 28 * j) s.size).size = _
      rw [ext_size]; omega
    rw [lisRd]
    by_cases h : n - j = 0
    · rw [if_pos (by rw [hz]; omega), h]
      simp
    · rw [if_neg (by rw [hz]; omega)]
      obtain ⟨e1, e2⟩ := liRd_st s (4 + 28 * j) (by omega)
      rw [e1, e2, show 4 + 28 * j + 28 = 4 + 28 * (j + 1) from by omega, lisRd_st s n hs m (j + 1) (by omega)]
      rw [show min (m + 1) (n - j) = min m (n - (j + 1)) + 1 from by omega, List.range_succ_eq_map]
      simp only [List.map_cons, List.map_map, Nat.add_zero]
      congr 1
      apply List.map_congr_left
      intro i _
      show liAt s _ = liAt s _
      congr 1
      omega
theorem lsRd_st (s : ByteArray) (n : Nat) (hs : s.size = 4 + 28 * n) : lsRd s = ⟨(gN s 0 4 : Nat), dLis s (min 15 n)⟩ := by
  unfold lsRd
  have e1 : rd (s, (0 : Int)) 4 = stA s 4 := by rw [stA_zero]; exact rd_at' s 0 4 (by omega)
  have r1 : getN (by_ (rawT s 4)) = gN s 0 4 := by
    have h := raw_at' s 0 4 (by omega)
    rw [← stA_zero] at h
    exact h
  have h := lisRd_st s n hs 15 0 (by omega)
  rw [Nat.mul_zero, Nat.add_zero, Nat.sub_zero] at h
  rw [e1, r1, h]
  unfold dLis
  simp only [Nat.zero_add]
theorem be_sgnS (n : Int) : be (sgnS n) 3 = be n 3 := by
  unfold sgnS
  by_cases h : 8388607 < n
  · rw [if_pos h]
    rw [be_snoc, be_snoc, be_snoc, be_snoc n, be_snoc (n / 256), be_snoc (n / 256 / 256), be_zero, be_zero]
    rw [show (n - 16777216) % 256 = n % 256 from by omega, show (n - 16777216) / 256 % 256 = n / 256 % 256 from by omega, show (n - 16777216) / 256 / 256 % 256 = n / 256 / 256 % 256 from by omega]
  · rw [if_neg h]
theorem be_00 : be 0 2 = [0, 0] := by kernel_rfl
theorem be_0 : be 0 1 = [0] := by kernel_rfl
theorem sl_0 (s : ByteArray) (a : Nat) (h : a < s.size) (h0 : fB s a = 0) : sl s a (a + 1) = [0] := by rw [fB_sl s a h, h0]; rfl
theorem liL_at (s : ByteArray) (a : Nat) (h : a + 28 ≤ s.size) (h2 : fB s (a + 2) = 0) (h3 : fB s (a + 3) = 0) (h7 : fB s (a + 7) = 0) : liL (liAt s a) = sl s a (a + 28) := by
  have z2 : be 0 2 = sl s (a + 2) (a + 4) := by
    rw [be_00, ← sl_cat s (a + 2) (a + 3) (a + 4) (by omega) (by omega) (by omega), sl_0 s (a + 2) (by omega) h2, sl_0 s (a + 3) (by omega) h3]
    rfl
  have z7 : be 0 1 = sl s (a + 7) (a + 8) := by rw [be_0, sl_0 s (a + 7) (by omega) h7]
  unfold liL liAt
  simp only
  rw [be_sgnS, z2, z7, be1_sl s a (by omega), be1_sl s (a + 1) (by omega), be_sl s (a + 4) (a + 7) 3 (by omega) (by omega), be_sl s (a + 8) (a + 12) 4 (by omega) (by omega), be_sl s (a + 12) (a + 16) 4 (by omega) (by omega), be_sl s (a + 16) (a + 20) 4 (by omega) (by omega), be_sl s (a + 20) (a + 24) 4 (by omega) (by omega), be_sl s (a + 24) (a + 28) 4 (by omega) (by omega)]
  rw [sl_cat s a (a + 1) (a + 2) (by omega) (by omega) (by omega), sl_cat s a (a + 2) (a + 4) (by omega) (by omega) (by omega), sl_cat s a (a + 4) (a + 7) (by omega) (by omega) (by omega), sl_cat s a (a + 7) (a + 8) (by omega) (by omega) (by omega), sl_cat s a (a + 8) (a + 12) (by omega) (by omega) (by omega), sl_cat s a (a + 12) (a + 16) (by omega) (by omega) (by omega), sl_cat s a (a + 16) (a + 20) (by omega) (by omega) (by omega), sl_cat s a (a + 20) (a + 24) (by omega) (by omega) (by omega), sl_cat s a (a + 24) (a + 28) (by omega) (by omega) (by omega)]
theorem lisL_at (s : ByteArray) : ∀ n, 4 + 28 * n ≤ s.size → (∀ k, k < n → fB s (4 + 28 * k + 2) = 0 ∧ fB s (4 + 28 * k + 3) = 0 ∧ fB s (4 + 28 * k + 7) = 0) → lisL (dLis s n) = sl s 4 (4 + 28 * n)
  | 0, h, _ => by
    show [] = sl s 4 4
    have := sl_len s 4 4 h
    exact (List.length_eq_zero_iff.1 (by rw [this])).symm
  | n + 1, h, hu => by
    have e : dLis s (n + 1) = dLis s n ++ [liAt s (4 + 28 * n)] := by unfold dLis; rw [List.range_succ, List.map_append]; rfl
    have e2 : lisL [liAt s (4 + 28 * n)] = liL (liAt s (4 + 28 * n)) := by show liL _ ++ [] = _; rw [List.append_nil]
    obtain ⟨u2, u3, u7⟩ := hu n (by omega)
    rw [e, lisL_append, e2, lisL_at s n (by omega) (fun k hk => hu k (by omega)), liL_at s (4 + 28 * n) (by omega) u2 u3 u7, sl_cat s 4 (4 + 28 * n) (4 + 28 * n + 28) (by omega) (by omega) (by omega)]
    rw [show 4 + 28 * n + 28 = 4 + 28 * (n + 1) from by omega]
theorem sgnS_rng (n : Nat) (h : n < 16777216) : -8388608 ≤ sgnS n ∧ sgnS n ≤ 8388607 := by unfold sgnS; split <;> omega
theorem lisD_may (s : ByteArray) (n : Nat) (h : lisD s n) : lisMay (dLis s n) := by
  intro k hk
  rw [dLis_len] at hk
  rw [dLis_get s n k hk, dLis_prev s n k (by omega)]
  obtain ⟨h1, h2, _⟩ := h k hk
  have g := sgnS_rng _ (gN_lt s (4 + 28 * k + 4) (4 + 28 * k + 7) 3 (by omega))
  have g2 := fB_lt s (4 + 28 * k + 1)
  unfold liMay liOk liAt
  simp only
  exact ⟨h1, by omega, by omega, by omega, g.1, g.2⟩
theorem prevL_ge (l : List LI) (h : lisMay l) : ∀ k, k ≤ l.length → (k : Int) ≤ prevL l k
  | 0, _ => Int.le_refl _
  | k + 1, hk => by
    have h1 := prevL_ge l h k (by omega)
    have h2 := (h k (by omega)).1
    show ((k + 1 : Nat) : Int) ≤ (l[k]?.getD zeroLI).path
    omega
theorem lisMay_len (l : List LI) (h : lisMay l) : l.length ≤ 15 := by
  by_cases h0 : l.length = 0
  · omega
  · have h1 := prevL_ge l h (l.length - 1) (by omega)
    have h2 := h (l.length - 1) (by omega)
    have h3 := h2.1
    have h4 := h2.2.1
    omega
theorem lis_forth (s : ByteArray) (n : Nat) (hs : s.size = 4 + 28 * n) (h1 : 1 ≤ n) (h : lisD s n) : lsRd s = ⟨(gN s 0 4 : Nat), dLis s n⟩ ∧ lsP (lsRd s) = ⟨1, 211, s⟩ := by
  have hm := lisD_may s n h
  have hn := lisMay_len _ hm
  rw [dLis_len] at hn
  have e : lsRd s = ⟨(gN s 0 4 : Nat), dLis s n⟩ := by rw [lsRd_st s n hs, show min 15 n = n from by omega]
  refine ⟨e, ?_⟩
  have hne : dLis s n ≠ [] := fun e0 => by have := dLis_len s n; rw [e0] at this; simp at this; omega
  rw [e]
  unfold lsP lqP
  rw [if_neg hne, if_pos hm]
  simp only
  rw [be_sl s 0 4 4 (by omega) (by omega), lisL_at s n (by omega) (fun k hk => (h k hk).2.2), sl_cat s 0 4 (4 + 28 * n) (by omega) (by omega) (by omega), ← hs, sl_all, ofL_by]
theorem lisL_idx : ∀ (l : List LI) (k j : Nat), k < l.length → j < 28 → (lisL l)[28 * k + j]? = (liL (l[k]?.getD zeroLI))[j]?
  | [], k, j, h, _ => by simp at h
  | p :: l, 0, j, _, hj => by
    show (liL p ++ lisL l)[28 * 0 + j]? = _
    rw [show 28 * 0 + j = j from by omega, List.getElem?_append_left (by rw [liL_len]; exact hj)]
    simp
  | p :: l, k + 1, j, h, hj => by
    show (liL p ++ lisL l)[28 * (k + 1) + j]? = _
    rw [List.getElem?_append_right (by rw [liL_len]; omega), liL_len, show 28 * (k + 1) + j - 28 = 28 * k + j from by omega, lisL_idx l k j (by simp at h; omega) hj]
    simp
theorem liL_0 (a : LI) : (liL a)[2]? = some 0 ∧ (liL a)[3]? = some 0 ∧ (liL a)[7]? = some 0 := by
  have e : liL a = (be a.path 1 ++ be a.frac 1) ++ (be 0 2 ++ (be a.lost 3 ++ (be 0 1 ++ (be a.high 4 ++ be a.jit 4 ++ be a.bytes 4 ++ be a.last 4 ++ be a.delay 4)))) := by unfold liL; simp
  have l2 : (be a.path 1 ++ be a.frac 1).length = 2 := by simp [be_len]
  have l3 : (be a.lost 3).length = 3 := be_len _ _
  rw [e, be_00, be_0]
  refine ⟨?_, ?_, ?_⟩
  · rw [List.getElem?_append_right (by omega), l2]; rfl
  · rw [List.getElem?_append_right (by omega), l2]; rfl
  · rw [List.getElem?_append_right (by omega), l2, List.getElem?_append_right (by decide), List.getElem?_append_right (by rw [l3]; decide), l3]; rfl
theorem fB_of (s : ByteArray) (i : Nat) (h : (by_ s)[i]? = some 0) : fB s i = 0 := by unfold fB; rw [h]; rfl
theorem lis_only (s : ByteArray) (h : lsP (lsRd s) = ⟨1, 211, s⟩) : ∃ n, s.size = 4 + 28 * n ∧ 1 ≤ n ∧ lisD s n := by
  have hk : (lsP (lsRd s)).kind = 211 := by rw [h]
  have hne : (lsRd s).all ≠ [] := by
    intro e
    unfold lsP at hk
    rw [if_pos e] at hk
    exact absurd hk (by decide)
  have e0 : lsP (lsRd s) = lqP (lsRd s) := by unfold lsP; rw [if_neg hne]
  rw [e0] at h hk
  have hm : lisMay (lsRd s).all := by
    unfold lqP at hk
    split at hk
    · assumption
    · exact absurd hk (by decide)
  have e : lqP (lsRd s) = ⟨1, 211, ofL (be (lsRd s).src 4 ++ lisL (lsRd s).all)⟩ := by unfold lqP; rw [if_pos hm]
  have hb : ofL (be (lsRd s).src 4 ++ lisL (lsRd s).all) = s := by rw [e] at h; exact congrArg PC.body h
  have hz : s.size = 4 + 28 * (lsRd s).all.length := by
    have := congrArg ByteArray.size hb
    rw [ofL_size, List.length_append, be_len, lisL_len] at this
    omega
  have hl := lisMay_len _ hm
  have e2 := lsRd_st s _ hz
  rw [show min 15 (lsRd s).all.length = (lsRd s).all.length from by omega] at e2
  have h1 : 1 ≤ (lsRd s).all.length := by
    rcases Nat.eq_zero_or_pos (lsRd s).all.length with h | h
    · exact absurd (List.length_eq_zero_iff.1 h) hne
    · exact h
  refine ⟨_, hz, h1, ?_⟩
  generalize hn : (lsRd s).all.length = n at hz hl e2 h1 ⊢
  rw [e2] at hm hb
  simp only at hm hb
  have hL : be ((gN s 0 4 : Nat) : Int) 4 ++ lisL (dLis s n) = by_ s := by
    have := congrArg by_ hb
    rw [by_ofL] at this
    exact this
  intro k hk
  have hmk := hm k (by rw [dLis_len]; exact hk)
  rw [dLis_get s n k hk, dLis_prev s n k (by omega)] at hmk
  obtain ⟨m1, m2, m3⟩ := hmk
  have hx : ∀ j, j < 28 → (by_ s)[4 + 28 * k + j]? = (liL (liAt s (4 + 28 * k)))[j]? := by
    intro j hj
    rw [← hL, List.getElem?_append_right (by rw [be_len]; omega), be_len, show 4 + 28 * k + j - 4 = 28 * k + j from by omega, lisL_idx _ k j (by rw [dLis_len]; exact hk) hj, dLis_get s n k hk]
  obtain ⟨z2, z3, z7⟩ := liL_0 (liAt s (4 + 28 * k))
  exact ⟨m1, by have : ((fB s (4 + 28 * k) : Nat) : Int) ≤ 15 := m2; omega, fB_of s _ (by rw [hx 2 (by decide), z2]), fB_of s _ (by rw [hx 3 (by decide), z3]), fB_of s _ (by rw [hx 7 (by decide), z7])⟩
/-- What ToLines finds of any piece, in the document's words. -/
theorem toLE_doc (p : PC) : toLE p = if p.kind ≠ 211 ∨ p.count ≠ 1 then 5 else if p.body.size < 32 ∨ p.body.size % 28 ≠ 4 then 1 else if lisD p.body ((p.body.size - 4) / 28) then 0 else 1 := by
  unfold toLE
  by_cases hk : p.kind ≠ 211 ∨ p.count ≠ 1
  · rw [if_pos hk, if_pos hk]
  · rw [if_neg hk, if_neg hk]
    have e : p = ⟨1, 211, p.body⟩ := by
      obtain ⟨c, k, s⟩ := p
      simp only at hk
      have h1 : k = 211 := Classical.byContradiction (fun h => hk (.inl h))
      have h2 : c = 1 := Classical.byContradiction (fun h => hk (.inr h))
      rw [h1, h2]
    generalize p.body = s at e
    subst e
    by_cases hz : s.size < 32 ∨ s.size % 28 ≠ 4
    · rw [if_pos hz, if_neg]
      intro h
      obtain ⟨n, hn, h1, _⟩ := lis_only s h
      omega
    · rw [if_neg hz]
      have hn : s.size = 4 + 28 * ((s.size - 4) / 28) := by omega
      by_cases hd : lisD s ((s.size - 4) / 28)
      · rw [if_pos hd, if_pos (lis_forth s _ hn (by omega) hd).2]
      · rw [if_neg hd, if_neg]
        intro h
        obtain ⟨n, hn2, _, hd2⟩ := lis_only s h
        rw [show (s.size - 4) / 28 = n from by omega] at hd
        exact hd hd2
end Go.Proofs.Ytjoikidnnhjogaa

