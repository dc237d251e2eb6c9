/- Pieces, and how they are split: plain facts. -/
import Derived.Test.YtagimjaojpdfiaaByM
namespace Go.Proofs.Ytagimjaojpdfiaa
open Go.RowKit
set_option linter.unusedVariables false
/-- A piece. -/
structure PC where
  count : Int
  kind : Int
  body : ByteArray
def PC.vals (p : PC) : List Value := [.int .i64 p.count, .int .i64 p.kind, .string p.body]
def zeroPC : PC := ⟨0, 0, { data := #[] }⟩
/-- It may be. -/
def pcMay (p : PC) : Prop := 0 ≤ p.count ∧ p.count ≤ 31 ∧ 192 ≤ p.kind ∧ p.kind ≤ 223 ∧ p.body.size % 4 = 0 ∧ p.body.size ≤ 262140
instance pcMay_dec (p : PC) : Decidable (pcMay p) := by unfold pcMay; infer_instance
/-- Its bytes; those of some. -/
def pcL (p : PC) : List UInt8 := be (128 + p.count) 1 ++ be p.kind 1 ++ be ((p.body.size / 4 : Nat) : Int) 2 ++ by_ p.body
def pcsL : List PC → List UInt8
  | [] => []
  | p :: l => pcL p ++ pcsL l
theorem pcsL_append : ∀ l m, pcsL (l ++ m) = pcsL l ++ pcsL m
  | [], m => rfl
  | p :: l, m => by show pcL p ++ pcsL (l ++ m) = _; rw [pcsL_append l m, ← List.append_assoc]; rfl
theorem pcL_len (p : PC) : (pcL p).length = 4 + p.body.size := by
  unfold pcL
  simp only [List.length_append, be_len, by_len]
theorem pcsL_snoc (l : List PC) (p : PC) : pcsL (l ++ [p]) = pcsL l ++ pcL p := by
  rw [pcsL_append]
  show _ ++ (pcL p ++ []) = _
  rw [List.append_nil]
theorem pcsL_take (l : List PC) (k : Nat) (h : k < l.length) : pcsL (l.take (k + 1)) = pcsL (l.take k) ++ pcL (l[k]?.getD zeroPC) := by
  rw [List.take_succ_eq_append_getElem h, pcsL_snoc]
  simp [h]
theorem pcsL_len_le : ∀ (l : List PC) (n : Nat), (∀ p ∈ l, p.body.size ≤ n) → (pcsL l).length ≤ l.length * (4 + n)
  | [], n, _ => by simp [pcsL]
  | p :: l, n, h => by
    have h1 := pcsL_len_le l n (fun q hq => h q (List.mem_cons_of_mem _ hq))
    have h2 := h p List.mem_cons_self
    show (pcL p ++ pcsL l).length ≤ (l.length + 1) * (4 + n)
    rw [List.length_append, pcL_len, Nat.add_mul, Nat.one_mul]
    omega
/-- What is wrong with the first piece (0: nothing); it; what is behind it. -/
def pcE (s : ByteArray) : Int :=
  if s.size < 4 then 2 else if fB s 0 / 32 ≠ 4 then 1 else if fB s 1 < 192 ∨ 223 < fB s 1 then 5 else if s.size < 4 + 4 * gN s 2 4 then 2 else 0
def pcF (s : ByteArray) : PC := ⟨(fB s 0 % 32 : Nat), (fB s 1 : Nat), s.extract 4 (4 + 4 * gN s 2 4)⟩
def pcR (s : ByteArray) : ByteArray := s.extract (4 + 4 * gN s 2 4) s.size
theorem pcE_zero (s : ByteArray) (h : pcE s = 0) : 4 ≤ s.size ∧ fB s 0 / 32 = 4 ∧ 192 ≤ fB s 1 ∧ fB s 1 ≤ 223 ∧ 4 + 4 * gN s 2 4 ≤ s.size := by
  unfold pcE at h
  by_cases h1 : s.size < 4
  · rw [if_pos h1] at h; cases h
  · rw [if_neg h1] at h
    by_cases h2 : fB s 0 / 32 ≠ 4
    · rw [if_pos h2] at h; cases h
    · rw [if_neg h2] at h
      by_cases h3 : fB s 1 < 192 ∨ 223 < fB s 1
      · rw [if_pos h3] at h; cases h
      · rw [if_neg h3] at h
        by_cases h4 : s.size < 4 + 4 * gN s 2 4
        · rw [if_pos h4] at h; cases h
        · omega
theorem pcR_size (s : ByteArray) : (pcR s).size = s.size - (4 + 4 * gN s 2 4) := ext_size s _
/-- All that are there; or what is wrong first. -/
def splitN : Nat → ByteArray → Int × List PC
  | 0, _ => (0, [])
  | n + 1, s => if s.size = 0 then (0, []) else if pcE s ≠ 0 then (pcE s, []) else ((splitN n (pcR s)).1, pcF s :: (splitN n (pcR s)).2)
theorem splitN_zero (n : Nat) (s : ByteArray) (h : s.size = 0) : splitN n s = (0, []) := by
  cases n with
  | zero => rfl
  | succ n => unfold splitN; rw [if_pos h]
theorem splitN_fuel : ∀ (n m : Nat) (s : ByteArray), s.size ≤ n → s.size ≤ m → splitN n s = splitN m s
  | 0, m, s, h, _ => by rw [splitN_zero 0 s (by omega), splitN_zero m s (by omega)]
  | n + 1, 0, s, _, h => by rw [splitN_zero _ s (by omega), splitN_zero _ s (by omega)]
  | n + 1, m + 1, s, h1, h2 => by
    unfold splitN
    by_cases h3 : s.size = 0
    · rw [if_pos h3, if_pos h3]
    · rw [if_neg h3, if_neg h3]
      have hs := pcR_size s
      rw [splitN_fuel n m (pcR s) (by omega) (by omega)]
def split (s : ByteArray) : Int × List PC := splitN s.size s
theorem split_nil (s : ByteArray) (h : s.size = 0) : split s = (0, []) := splitN_zero _ s h
theorem split_bad (s : ByteArray) (h : s.size ≠ 0) (he : pcE s ≠ 0) : split s = (pcE s, []) := by
  unfold split
  obtain ⟨n, hn⟩ : ∃ n, s.size = n + 1 := ⟨s.size - 1, by omega⟩
  rw [hn]
  unfold splitN
  rw [if_neg h, if_pos he]
theorem split_good (s : ByteArray) (h : s.size ≠ 0) (he : pcE s = 0) : split s = ((split (pcR s)).1, pcF s :: (split (pcR s)).2) := by
  have hs := pcR_size s
  unfold split
  obtain ⟨n, hn⟩ : ∃ n, s.size = n + 1 := ⟨s.size - 1, by omega⟩
  rw [splitN_fuel (pcR s).size n (pcR s) (Nat.le_refl _) (by omega), hn]
  conv => lhs; unfold splitN
  rw [if_neg h, if_neg (by simpa using he)]
theorem split_good1 (s : ByteArray) (h : s.size ≠ 0) (he : pcE s = 0) : (split s).1 = (split (pcR s)).1 := by rw [split_good s h he]
theorem split_good2 (s : ByteArray) (h : s.size ≠ 0) (he : pcE s = 0) : (split s).2 = pcF s :: (split (pcR s)).2 := by rw [split_good s h he]
theorem pcF_may (s : ByteArray) (he : pcE s = 0) : pcMay (pcF s) ∧ pcL (pcF s) = sl s 0 (4 + 4 * gN s 2 4) := by
  obtain ⟨h1, h2, h3, h4, h5⟩ := pcE_zero s he
  have hg := gN_lt s 2 4 2 (by omega)
  have hz : (s.extract 4 (4 + 4 * gN s 2 4)).size = 4 * gN s 2 4 := by rw [ByteArray.size_extract]; omega
  refine ⟨⟨by show (0 : Int) ≤ ((fB s 0 % 32 : Nat) : Int); omega, by show ((fB s 0 % 32 : Nat) : Int) ≤ 31; omega, by show (192 : Int) ≤ ((fB s 1 : Nat) : Int); omega, by show ((fB s 1 : Nat) : Int) ≤ 223; omega, by show (s.extract 4 (4 + 4 * gN s 2 4)).size % 4 = 0; omega, by show (s.extract 4 (4 + 4 * gN s 2 4)).size ≤ 262140; omega⟩, ?_⟩
  unfold pcL pcF
  show be (128 + ((fB s 0 % 32 : Nat) : Int)) 1 ++ be ((fB s 1 : Nat) : Int) 1 ++ be (((s.extract 4 (4 + 4 * gN s 2 4)).size / 4 : Nat) : Int) 2 ++ sl s 4 (4 + 4 * gN s 2 4) = _
  rw [hz, show (4 * gN s 2 4) / 4 = gN s 2 4 from by omega, show (128 + ((fB s 0 % 32 : Nat) : Int)) = ((fB s 0 : Nat) : Int) from by omega, be_1 _ (fB_lt s 0), be_1 _ (fB_lt s 1), ← fB_sl s 0 (by omega), ← fB_sl s 1 (by omega), be_sl s 2 4 2 (by omega) rfl]
  rw [sl_cat s 0 (0 + 1) (1 + 1) (by omega) (by omega) (by omega), sl_cat s 0 (1 + 1) 4 (by omega) (by omega) (by omega), sl_cat s 0 4 _ (by omega) (by omega) (by omega)]
theorem split_back_n : ∀ (n : Nat) (s : ByteArray), s.size ≤ n → (split s).1 = 0 → (∀ p ∈ (split s).2, pcMay p) ∧ pcsL (split s).2 = by_ s
  | 0, s, hn, h => by
    rw [split_nil s (by omega)]
    exact ⟨by simp, (List.length_eq_zero_iff.1 (by rw [by_len]; omega)).symm⟩
  | n + 1, s, hn, h => by
    by_cases h0 : s.size = 0
    · rw [split_nil s h0]
      exact ⟨by simp, (List.length_eq_zero_iff.1 (by rw [by_len]; omega)).symm⟩
    · by_cases he : pcE s = 0
      · have hs := pcR_size s
        have hsz : (pcR s).size ≤ n := by clear h; omega
        rw [split_good1 s h0 he] at h
        rw [split_good2 s h0 he]
        obtain ⟨h1, h2⟩ := split_back_n n (pcR s) hsz h
        obtain ⟨f1, f2⟩ := pcF_may s he
        have h5 := (pcE_zero s he).2.2.2.2
        refine ⟨?_, ?_⟩
        · intro p hp
          rcases List.mem_cons.1 hp with rfl | hp
          · exact f1
          · exact h1 p hp
        · show pcL (pcF s) ++ pcsL (split (pcR s)).2 = _
          clear h h1
          clear hs hsz
          rw [h2, f2, show by_ (pcR s) = sl s (4 + 4 * gN s 2 4) s.size from rfl, sl_cat s 0 _ _ (Nat.zero_le _) h5 (Nat.le_refl _), sl_all]
      · rw [split_bad s h0 he] at h
        exact absurd h he
theorem split_back (s : ByteArray) (h : (split s).1 = 0) : (∀ p ∈ (split s).2, pcMay p) ∧ pcsL (split s).2 = by_ s := split_back_n s.size s (Nat.le_refl _) h
theorem split_len_n : ∀ (n : Nat) (s : ByteArray), s.size ≤ n → (split s).2.length ≤ s.size ∧ ∀ p ∈ (split s).2, p.body.size ≤ s.size
  | 0, s, hn => by rw [split_nil s (by omega)]; exact ⟨Nat.zero_le _, by simp⟩
  | n + 1, s, hn => by
    by_cases h0 : s.size = 0
    · rw [split_nil s h0]; exact ⟨Nat.zero_le _, by simp⟩
    · by_cases he : pcE s = 0
      · rw [split_good2 s h0 he]
        have hs := pcR_size s
        have h := split_len_n n (pcR s) (by omega)
        refine ⟨by rw [List.length_cons]; have := h.1; omega, ?_⟩
        intro p hp
        rcases List.mem_cons.1 hp with rfl | hp
        · show (s.extract 4 (4 + 4 * gN s 2 4)).size ≤ _
          rw [ByteArray.size_extract]; omega
        · have := h.2 p hp; omega
      · rw [split_bad s h0 he]; exact ⟨Nat.zero_le _, by simp⟩
theorem split_len (s : ByteArray) : (split s).2.length ≤ s.size ∧ ∀ p ∈ (split s).2, p.body.size ≤ s.size := split_len_n s.size s (Nat.le_refl _)
theorem fB_ofL (L : List UInt8) (i : Nat) : fB (ofL L) i = (L[i]?.getD 0).toNat := by unfold fB; rw [by_ofL]
theorem gN_ofL (L : List UInt8) (a b : Nat) (h : b ≤ L.length) : gN (ofL L) a b = getN ((L.take b).drop a) := by unfold gN; rw [ofL_extract _ _ _ h, by_ofL]
/-- The bytes of a piece that may be, and more: the first piece is it. -/
theorem pc_ahead (p : PC) (R : List UInt8) (hp : pcMay p) : pcE (ofL (pcL p ++ R)) = 0 ∧ pcF (ofL (pcL p ++ R)) = p ∧ pcR (ofL (pcL p ++ R)) = ofL R := by
  obtain ⟨h1, h2, h3, h4, h5, h6⟩ := hp
  have hlen : (pcL p ++ R).length = 4 + p.body.size + R.length := by rw [List.length_append, pcL_len]
  obtain ⟨c, hc⟩ : ∃ c : Nat, 128 + p.count = (c : Int) := ⟨(128 + p.count).toNat, by omega⟩
  obtain ⟨k, hk⟩ : ∃ k : Nat, p.kind = (k : Int) := ⟨p.kind.toNat, by omega⟩
  have e0 : pcL p = [UInt8.ofNat c] ++ [UInt8.ofNat k] ++ be ((p.body.size / 4 : Nat) : Int) 2 ++ by_ p.body := by unfold pcL; rw [hc, hk, be_1 _ (by omega), be_1 _ (by omega)]
  have b2 := getN_be2 ((p.body.size / 4 : Nat) : Int)
  have l2 := be_len ((p.body.size / 4 : Nat) : Int) 2
  have hf0 : fB (ofL (pcL p ++ R)) 0 = c := by
    rw [fB_ofL, e0]
    show (UInt8.ofNat c).toNat = c
    rw [UInt8.toNat_ofNat', Nat.mod_eq_of_lt (by omega)]
  have hf1 : fB (ofL (pcL p ++ R)) 1 = k := by
    rw [fB_ofL, e0]
    show (UInt8.ofNat k).toNat = k
    rw [UInt8.toNat_ofNat', Nat.mod_eq_of_lt (by omega)]
  have hg : gN (ofL (pcL p ++ R)) 2 4 = p.body.size / 4 := by
    rw [gN_ofL _ _ _ (by omega), e0]
    generalize be ((p.body.size / 4 : Nat) : Int) 2 = X at b2 l2
    match X, l2 with
    | [x, y], _ =>
      show getN [x, y] = _
      omega
  have hsz : (ofL (pcL p ++ R)).size = 4 + p.body.size + R.length := by rw [ofL_size, hlen]
  have e4 : 4 * (p.body.size / 4) = p.body.size := by omega
  refine ⟨?_, ?_, ?_⟩
  · unfold pcE
    rw [hf0, hf1, hg, hsz, if_neg (by omega), if_neg (by omega), if_neg (by omega), if_neg (by omega)]
  · unfold pcF
    rw [hf0, hf1, hg, e4, ofL_extract _ _ _ (by omega)]
    have e5 : List.drop 4 (List.take (4 + p.body.size) (pcL p ++ R)) = by_ p.body := by
      rw [List.take_append_of_le_length (by rw [pcL_len]; exact Nat.le_refl _), List.take_of_length_le (by rw [pcL_len]; exact Nat.le_refl _)]
      unfold pcL
      rw [List.drop_left' (by simp [be_len])]
    rw [e5, ofL_by]
    obtain ⟨x, y, z⟩ := p
    simp only at hc hk
    rw [show ((c % 32 : Nat) : Int) = x from by simp only at h1 h2; omega, ← hk]
  · unfold pcR
    rw [hg, e4, hsz, ofL_extract _ _ _ (by omega), List.take_of_length_le (by omega), List.drop_left' (pcL_len p)]
theorem split_pack : ∀ l : List PC, (∀ p ∈ l, pcMay p) → split (ofL (pcsL l)) = (0, l)
  | [], _ => split_nil _ (by rw [ofL_size]; rfl)
  | p :: l, h => by
    obtain ⟨h1, h2, h3⟩ := pc_ahead p (pcsL l) (h p List.mem_cons_self)
    have hz : (ofL (pcL p ++ pcsL l)).size ≠ 0 := by rw [ofL_size, List.length_append, pcL_len]; omega
    show split (ofL (pcL p ++ pcsL l)) = _
    rw [split_good _ hz h1, h2, h3, split_pack l (fun q hq => h q (List.mem_cons_of_mem _ hq))]
end Go.Proofs.Ytagimjaojpdfiaa
