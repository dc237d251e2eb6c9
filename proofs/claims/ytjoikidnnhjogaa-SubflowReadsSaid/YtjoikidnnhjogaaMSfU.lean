/- Subflow: what the document's ToAdverts finds (plain). -/
import Derived.Test.YtjoikidnnhjogaaMSfM
import Derived.Test.YtjoikidnnhjogaaMb
namespace Go.Proofs.Ytjoikidnnhjogaa
open Go.RowKit
set_option linter.unusedVariables false
/-- The advert that stands at a place. -/
def adAt (s : ByteArray) (a : Nat) : AD := ⟨(fB s a : Nat), decide (((fB s (a + 1) : Nat) : Int) = 1), (gN s (a + 2) (a + 4) : Nat)⟩
def dAds (s : ByteArray) (n : Nat) : List AD := (List.range n).map (fun i => adAt s (4 + 4 * i))
def adD (s : ByteArray) (last : Int) (a : Nat) : Prop := last < (fB s a : Nat) ∧ fB s a ≤ 15 ∧ fB s (a + 1) ≤ 1
instance adD_dec (s : ByteArray) (n : Int) (a : Nat) : Decidable (adD s n a) := by unfold adD; infer_instance
def prevD (s : ByteArray) : Nat → Int
  | 0 => 0
  | k + 1 => (fB s (4 + 4 * k) : Nat)
/-- The document's adverts may be. -/
def adsD (s : ByteArray) (n : Nat) : Prop := ∀ k, k < n → adD s (prevD s k) (4 + 4 * k)
instance adsD_dec (s : ByteArray) (n : Nat) : Decidable (adsD s n) := by unfold adsD; infer_instance
theorem dAds_len (s : ByteArray) (n : Nat) : (dAds s n).length = n := by simp [dAds]
theorem dAds_get (s : ByteArray) (n k : Nat) (h : k < n) : (dAds s n)[k]?.getD zeroAD = adAt s (4 + 4 * k) := by simp [dAds, h]
theorem dAds_prev (s : ByteArray) (n : Nat) : ∀ k, k ≤ n → prevA (dAds s n) k = prevD s k
  | 0, _ => rfl
  | k + 1, h => by
    show ((dAds s n)[k]?.getD zeroAD).path = _
    rw [dAds_get s n k (by omega)]
    rfl
theorem rd_at' (s : ByteArray) (a m : Nat) (h : a + m ≤ s.size) : rd (stA s a) (m : Nat) = stA s (a + m) := by rw [rd_st s a m (by omega), if_neg (by omega)]
theorem raw_at' (s : ByteArray) (a m : Nat) (h : a + m ≤ s.size) : getN (by_ (rawT (stA s a).1 (m : Nat))) = gN s a (a + m) := by
  have := rawT_st s a m h
  unfold gN
  rw [← this]
  rfl
theorem gN_1 (s : ByteArray) (a : Nat) (h : a < s.size) : gN s a (a + 1) = fB s a := getN_at s a h
theorem adRd_st (s : ByteArray) (a : Nat) (h : a + 4 ≤ s.size) : adRd (stA s a) = adAt s a ∧ adNx (stA s a) = stA s (a + 4) := by
  have e1 : rd (stA s a) 1 = stA s (a + 1) := rd_at' s a 1 (by omega)
  have e2 : rd (stA s (a + 1)) 1 = stA s (a + 2) := rd_at' s (a + 1) 1 (by omega)
  have e3 : rd (stA s (a + 2)) 2 = stA s (a + 4) := rd_at' s (a + 2) 2 (by omega)
  have r1 : getN (by_ (rawT (stA s a).1 1)) = fB s a := by rw [← gN_1 s a (by omega)]; exact raw_at' s a 1 (by omega)
  have r2 : getN (by_ (rawT (stA s (a + 1)).1 1)) = fB s (a + 1) := by rw [← gN_1 s (a + 1) (by omega)]; exact raw_at' s (a + 1) 1 (by omega)
  have r3 : getN (by_ (rawT (stA s (a + 2)).1 2)) = gN s (a + 2) (a + 4) := raw_at' s (a + 2) 2 (by omega)
  unfold adRd adNx
  rw [e1, e2, e3, r1, r2, r3]
  exact ⟨rfl, rfl⟩
theorem adsRd_st (s : ByteArray) (n : Nat) (hs : s.size = 4 + 4 * n) : ∀ (m j : Nat), j ≤ n → adsRd m (stA s (4 + 4 * j)) = (List.range (min m (n - j))).map (fun i => adAt s (4 + 4 * (j + i)))
  | 0, j, _ => by simp [adsRd]
  | m + 1, j, hj => by
    have hz : (stA s (4 + 4 * j)).1.size = 4 * (n - j) := by
      show (s.extract (4 + 4 * j) s.size).size = _
      rw [ext_size]; omega
    rw [adsRd]
    by_cases h : n - j = 0
    · rw [if_pos (by rw [hz]; omega), h]
      simp
    · rw [if_neg (by rw [hz]; omega)]
      obtain ⟨e1, e2⟩ := adRd_st s (4 + 4 * j) (by omega)
      rw [e1, e2, show 4 + 4 * j + 4 = 4 + 4 * (j + 1) from by omega, adsRd_st s n hs m (j + 1) (by omega)]
      rw [show min (m + 1) (n - j) = min m (n - (j + 1)) + 1 from by omega, List.range_succ_eq_map]
      simp only [List.map_cons, List.map_map, Nat.add_zero]
      congr 1
      apply List.map_congr_left
      intro i _
      show adAt s _ = adAt s _
      congr 1
      omega
theorem asRd_st (s : ByteArray) (n : Nat) (hs : s.size = 4 + 4 * n) : asRd s = ⟨(gN s 0 4 : Nat), dAds s (min 15 n)⟩ := by
  unfold asRd
  have e1 : rd (s, (0 : Int)) 4 = stA s 4 := by rw [stA_zero]; exact rd_at' s 0 4 (by omega)
  have r1 : getN (by_ (rawT s 4)) = gN s 0 4 := by
    have h := raw_at' s 0 4 (by omega)
    rw [← stA_zero] at h
    exact h
  have h := adsRd_st s n hs 15 0 (by omega)
  rw [Nat.mul_zero, Nat.add_zero, Nat.sub_zero] at h
  rw [e1, r1, h]
  unfold dAds
  simp only [Nat.zero_add]
theorem up_1 (s : ByteArray) (a : Nat) : fB s a ≤ 1 ↔ upN (decide (((fB s a : Nat) : Int) = 1)) = ((fB s a : Nat) : Int) := by
  unfold upN
  by_cases h : ((fB s a : Nat) : Int) = 1
  · rw [if_pos (by simpa using h)]; omega
  · rw [if_neg (by simpa using h)]; omega
theorem be1_sl (s : ByteArray) (a : Nat) (h : a < s.size) : be ((fB s a : Nat) : Int) 1 = sl s a (a + 1) := by
  rw [be_1 _ (fB_lt s a), fB_sl s a h]
theorem adL_at (s : ByteArray) (a : Nat) (h : a + 4 ≤ s.size) (hu : fB s (a + 1) ≤ 1) : adL (adAt s a) = sl s a (a + 4) := by
  unfold adL adAt
  simp only
  rw [(up_1 s (a + 1)).1 hu, be1_sl s a (by omega), be1_sl s (a + 1) (by omega), be_sl s (a + 2) (a + 4) 2 (by omega) (by omega), sl_cat s a (a + 1) (a + 2) (by omega) (by omega) (by omega), sl_cat s a (a + 2) (a + 4) (by omega) (by omega) (by omega)]
theorem adsL_at (s : ByteArray) : ∀ n, 4 + 4 * n ≤ s.size → (∀ k, k < n → fB s (4 + 4 * k + 1) ≤ 1) → adsL (dAds s n) = sl s 4 (4 + 4 * n)
  | 0, h, _ => by
    show [] = sl s 4 4
    have := sl_len s 4 4 h
    exact (List.length_eq_zero_iff.1 (by rw [this])).symm
  | n + 1, h, hu => by
    have e : dAds s (n + 1) = dAds s n ++ [adAt s (4 + 4 * n)] := by unfold dAds; rw [List.range_succ, List.map_append]; rfl
    have e2 : adsL [adAt s (4 + 4 * n)] = adL (adAt s (4 + 4 * n)) := by show adL _ ++ [] = _; rw [List.append_nil]
    rw [e, adsL_append, e2, adsL_at s n (by omega) (fun k hk => hu k (by omega)), adL_at s (4 + 4 * n) (by omega) (hu n (by omega)), sl_cat s 4 (4 + 4 * n) (4 + 4 * n + 4) (by omega) (by omega) (by omega)]
    rw [show 4 + 4 * n + 4 = 4 + 4 * (n + 1) from by omega]
theorem adsD_may (s : ByteArray) (n : Nat) (h : adsD s n) : adsMay (dAds s n) := by
  intro k hk
  rw [dAds_len] at hk
  rw [dAds_get s n k hk, dAds_prev s n k (by omega)]
  obtain ⟨h1, h2, h3⟩ := h k hk
  have g := gN_lt s (4 + 4 * k + 2) (4 + 4 * k + 4) 2 (by omega)
  unfold adMay adAt
  simp only
  exact ⟨h1, by omega, by omega, by omega⟩
/-- There and back: the document's adverts make the piece. -/
theorem ads_forth (s : ByteArray) (n : Nat) (hs : s.size = 4 + 4 * n) (h : adsD s n) : asRd s = ⟨(gN s 0 4 : Nat), dAds s n⟩ ∧ asP (asRd s) = ⟨2, 211, s⟩ := by
  have hm := adsD_may s n h
  have hn := adsMay_len _ hm
  rw [dAds_len] at hn
  have e : asRd s = ⟨(gN s 0 4 : Nat), dAds s n⟩ := by rw [asRd_st s n hs, show min 15 n = n from by omega]
  refine ⟨e, ?_⟩
  rw [e]
  unfold asP
  rw [if_pos hm]
  unfold asL
  simp only
  rw [be_sl s 0 4 4 (by omega) (by omega), adsL_at s n (by omega) (fun k hk => (h k hk).2.2), sl_cat s 0 4 (4 + 4 * n) (by omega) (by omega) (by omega), ← hs, sl_all, ofL_by]
theorem adsL_idx : ∀ (l : List AD) (k j : Nat), k < l.length → j < 4 → (adsL l)[4 * k + j]? = (adL (l[k]?.getD zeroAD))[j]?
  | [], k, j, h, _ => by simp at h
  | p :: l, 0, j, _, hj => by
    show (adL p ++ adsL l)[4 * 0 + j]? = _
    rw [show 4 * 0 + j = j from by omega, List.getElem?_append_left (by rw [adL_len]; exact hj)]
    simp
  | p :: l, k + 1, j, h, hj => by
    show (adL p ++ adsL l)[4 * (k + 1) + j]? = _
    rw [List.getElem?_append_right (by rw [adL_len]; omega), adL_len, show 4 * (k + 1) + j - 4 = 4 * k + j from by omega, adsL_idx l k j (by simp at h; omega) hj]
    simp
theorem be_upN (u : Bool) : be (upN u) 1 = [if u then 1 else 0] := by cases u <;> kernel_rfl
theorem adL_1 (a : AD) : (adL a)[1]? = some (if a.up then 1 else 0) := by
  unfold adL
  rw [List.append_assoc, List.getElem?_append_right (by rw [be_len]; omega), be_len, be_upN]
  rfl
theorem ads_only (s : ByteArray) (h : asP (asRd s) = ⟨2, 211, s⟩) : ∃ n, s.size = 4 + 4 * n ∧ adsD s n := by
  have hk : (asP (asRd s)).kind = 211 := by rw [h]
  have hm : adsMay (asRd s).all := by
    unfold asP at hk
    split at hk
    · assumption
    · exact absurd hk (by decide)
  have e : asP (asRd s) = ⟨2, 211, ofL (asL (asRd s))⟩ := by unfold asP; rw [if_pos hm]
  have hb : ofL (asL (asRd s)) = s := by rw [e] at h; exact congrArg PC.body h
  have hz : s.size = 4 + 4 * (asRd s).all.length := by
    have := congrArg ByteArray.size hb
    rw [ofL_size] at this
    unfold asL at this
    rw [List.length_append, be_len, adsL_len] at this
    omega
  refine ⟨_, hz, ?_⟩
  have hl := adsMay_len _ hm
  have e2 := asRd_st s _ hz
  rw [show min 15 (asRd s).all.length = (asRd s).all.length from by omega] at e2
  generalize hn : (asRd s).all.length = n at hz hl e2 ⊢
  rw [e2] at hm hb
  unfold asL at hb
  simp only at hm hb
  intro k hk
  have hmk := hm k (by rw [dAds_len]; exact hk)
  rw [dAds_get s n k hk, dAds_prev s n k (by omega)] at hmk
  obtain ⟨m1, m2, m3, m4⟩ := hmk
  refine ⟨m1, by have : ((fB s (4 + 4 * k) : Nat) : Int) ≤ 15 := m2; omega, ?_⟩
  rw [up_1]
  have hL : be ((gN s 0 4 : Nat) : Int) 4 ++ adsL (dAds s n) = by_ s := by
    have := congrArg by_ hb
    rw [by_ofL] at this
    exact this
  have h1 : (by_ s)[4 + 4 * k + 1]? = (adL (adAt s (4 + 4 * k)))[1]? := by
    rw [← hL, List.getElem?_append_right (by rw [be_len]; omega), be_len, show 4 + 4 * k + 1 - 4 = 4 * k + 1 from by omega, adsL_idx _ k 1 (by rw [dAds_len]; exact hk) (by decide), dAds_get s n k hk]
  rw [adL_1] at h1
  unfold adAt at h1
  simp only at h1
  generalize decide (((fB s (4 + 4 * k + 1) : Nat) : Int) = 1) = u at h1 ⊢
  unfold fB
  rw [h1]
  cases u <;> rfl
/-- What ToAdverts finds of any piece, in the document's words. -/
theorem toSE_doc (p : PC) : toSE p = if p.kind ≠ 211 ∨ p.count ≠ 2 then 5 else if p.body.size < 4 ∨ p.body.size % 4 ≠ 0 then 1 else if adsD p.body ((p.body.size - 4) / 4) then 0 else 1 := by
  unfold toSE
  by_cases hk : p.kind ≠ 211 ∨ p.count ≠ 2
  · rw [if_pos hk, if_pos hk]
  · rw [if_neg hk, if_neg hk]
    have e : p = ⟨2, 211, p.body⟩ := by
      obtain ⟨c, k, s⟩ := p
      simp only at hk
      have h1 : k = 211 := Classical.byContradiction (fun h => hk (.inl h))
      have h2 : c = 2 := Classical.byContradiction (fun h => hk (.inr h))
      rw [h1, h2]
    generalize p.body = s at e
    subst e
    by_cases hz : s.size < 4 ∨ s.size % 4 ≠ 0
    · rw [if_pos hz, if_neg]
      intro h
      obtain ⟨n, hn, _⟩ := ads_only s h
      omega
    · rw [if_neg hz]
      have hn : s.size = 4 + 4 * ((s.size - 4) / 4) := by omega
      by_cases hd : adsD s ((s.size - 4) / 4)
      · rw [if_pos hd, if_pos (ads_forth s _ hn hd).2]
      · rw [if_neg hd, if_neg]
        intro h
        obtain ⟨n, hn2, hd2⟩ := ads_only s h
        rw [show (s.size - 4) / 4 = n from by omega] at hd
        exact hd hd2
end Go.Proofs.Ytjoikidnnhjogaa

