/- Reports: what Of finds (plain facts). -/
import Derived.Test.YtkchhiiomahbaaaMRpS
namespace Go.Proofs.Ytkchhiiomahbaaa
open Go.RowKit
set_option linter.unusedVariables false
def hd (isS : Bool) : Nat := if isS then 24 else 4
def rpAt (isS : Bool) (s : ByteArray) (n : Nat) : RP :=
  ⟨gN s 0 4, isS, if isS then IntKind.i64.wrap (((gN s 4 (4 + 4) * 4294967296 + gN s (4 + 4) (4 + 4 + 4) : Nat) : Int)) else 0, if isS then gN s (4 + 4 + 4) (4 + 4 + 4 + 4) else 0, if isS then gN s (4 + 4 + 4 + 4) (4 + 4 + 4 + 4 + 4) else 0, if isS then gN s (4 + 4 + 4 + 4 + 4) (4 + 4 + 4 + 4 + 4 + 4) else 0, (List.range n).map fun i => bkAt s (hd isS + 24 * i)⟩
def isSk (k : Int) : Bool := decide (k = 200)
def ofE (p : PC) : Int :=
  if p.kind ≠ 200 ∧ p.kind ≠ 201 then 5
  else if p.body.size < hd (isSk p.kind) + 24 * p.count.toNat then 2
  else if hd (isSk p.kind) + 24 * p.count.toNat < p.body.size then 1
  else if rpMay (rpAt (isSk p.kind) p.body p.count.toNat) then 0 else 6
def ofP (p : PC) : RP := if ofE p = 0 then rpAt (isSk p.kind) p.body p.count.toNat else zeroRP
/-- A number's bytes, one part behind the other. -/
theorem getN_append (A : List UInt8) : ∀ (n : Nat) (B : List UInt8), B.length = n → getN (A ++ B) = getN A * 256 ^ n + getN B
  | 0, B, h => by
    rw [List.length_eq_zero_iff.1 h, List.append_nil]
    show _ = getN A * 1 + 0
    omega
  | n + 1, B, h => by
    obtain ⟨B', c, rfl⟩ : ∃ B' c, B = B' ++ [c] := ⟨B.dropLast, B.getLast (by intro h'; rw [h'] at h; cases h), (List.dropLast_concat_getLast _).symm⟩
    have h' : B'.length = n := by simp at h; exact h
    rw [← List.append_assoc, getN_snoc', getN_append A n B' h', getN_snoc', Nat.pow_succ, Nat.mul_add]
    have : 256 * (getN A * 256 ^ n) = getN A * (256 ^ n * 256) := by rw [Nat.mul_comm, Nat.mul_assoc]
    omega
theorem be_8 (h l : Nat) (hh : h < 4294967296) (hl : l < 4294967296) : be ((h * 4294967296 + l : Nat) : Int) 8 = be (h : Int) 4 ++ be (l : Int) 4 := by
  have e1 : (getN (be (h : Int) 4) : Nat) = h := by have := getN_be4 (h : Int); omega
  have e2 : (getN (be (l : Int) 4) : Nat) = l := by have := getN_be4 (l : Int); omega
  have e := getN_append (be (h : Int) 4) 4 (be (l : Int) 4) (be_len _ _)
  rw [e1, e2] at e
  have k := be_getN 8 (be (h : Int) 4 ++ be (l : Int) 4) (by rw [List.length_append, be_len, be_len])
  rw [e] at k
  exact k
theorem gN_8 (s : ByteArray) (a : Nat) (h : a + 8 ≤ s.size) : gN s a (a + 8) = gN s a (a + 4) * 4294967296 + gN s (a + 4) (a + 8) := by
  have e := getN_append (sl s a (a + 4)) 4 (sl s (a + 4) (a + 8)) (by rw [sl_len _ _ _ (by omega)]; omega)
  rw [sl_cat s a (a + 4) (a + 8) (by omega) (by omega) (by omega)] at e
  exact e
theorem gN_lt4 (s : ByteArray) (a : Nat) : gN s a (a + 4) < 4294967296 := gN_lt s a (a + 4) 4 (Nat.le_refl _)
theorem gN_lt3 (s : ByteArray) (a : Nat) : gN s a (a + 3) < 16777216 := gN_lt s a (a + 3) 3 (Nat.le_refl _)
theorem gN_lt1 (s : ByteArray) (a : Nat) : gN s a (a + 1) < 256 := gN_lt s a (a + 1) 1 (Nat.le_refl _)
theorem be_sgn (n : Int) : be (sgn n) 3 = be n 3 := by
  unfold sgn
  by_cases h : 8388607 < n
  · rw [if_pos h]
    rw [be_snoc, be_snoc, be_snoc, be_snoc n, be_snoc (n / 256), be_snoc (n / 256 / 256), be_zero, be_zero]
    rw [show (n - 16777216) % 256 = n % 256 from by omega, show (n - 16777216) / 256 % 256 = n / 256 % 256 from by omega, show (n - 16777216) / 256 / 256 % 256 = n / 256 / 256 % 256 from by omega]
  · rw [if_neg h]
theorem sgn_rng (n : Nat) (h : n < 16777216) : -8388608 ≤ sgn n ∧ sgn n ≤ 8388607 := by unfold sgn; split <;> omega
theorem bkAt_may (s : ByteArray) (a : Nat) : bkMay (bkAt s a) ∧ (bkAt s a).ok := by
  have h1 := gN_lt1 s (a + 4)
  have h2 := sgn_rng _ (gN_lt3 s (a + 4 + 1))
  have k1 := gN_lt4 s a
  have k2 := gN_lt4 s (a + 4 + 1 + 3)
  have k3 := gN_lt4 s (a + 4 + 1 + 3 + 4)
  have k4 := gN_lt4 s (a + 4 + 1 + 3 + 4 + 4)
  have k5 := gN_lt4 s (a + 4 + 1 + 3 + 4 + 4 + 4)
  unfold bkMay BK.ok u32ok bkAt
  simp only
  omega
theorem bkL_at (s : ByteArray) (a : Nat) (h : a + 24 ≤ s.size) : bkL (bkAt s a) = sl s a (a + 24) := by
  unfold bkL bkAt
  simp only
  rw [be_sgn]
  rw [be_sl s a (a + 4) 4 (by omega) rfl, be_sl s (a + 4) (a + 4 + 1) 1 (by omega) rfl, be_sl s (a + 4 + 1) (a + 4 + 1 + 3) 3 (by omega) rfl, be_sl s (a + 4 + 1 + 3) _ 4 (by omega) rfl, be_sl s (a + 4 + 1 + 3 + 4) _ 4 (by omega) rfl, be_sl s (a + 4 + 1 + 3 + 4 + 4) _ 4 (by omega) rfl, be_sl s (a + 4 + 1 + 3 + 4 + 4 + 4) _ 4 (by omega) rfl]
  rw [sl_cat s a _ _ (by omega) (by omega) (by omega), sl_cat s a _ _ (by omega) (by omega) (by omega), sl_cat s a _ _ (by omega) (by omega) (by omega), sl_cat s a _ _ (by omega) (by omega) (by omega), sl_cat s a _ _ (by omega) (by omega) (by omega), sl_cat s a _ _ (by omega) (by omega) (by omega)]
theorem bksL_at (s : ByteArray) (h : Nat) : ∀ n, h + 24 * n ≤ s.size → bksL ((List.range n).map fun i => bkAt s (h + 24 * i)) = sl s h (h + 24 * n)
  | 0, hn => by
    show [] = _
    have := sl_len s h (h + 24 * 0) hn
    exact (List.length_eq_zero_iff.1 (by omega)).symm
  | n + 1, hn => by
    rw [List.range_succ, List.map_append, bksL_append, bksL_at s h n (by omega)]
    show sl s h (h + 24 * n) ++ (bkL (bkAt s (h + 24 * n)) ++ []) = _
    rw [List.append_nil, bkL_at s _ (by omega), sl_cat s h _ _ (by omega) (by omega) (by omega)]
    rfl
theorem rpAt_ok (i : Bool) (s : ByteArray) (n : Nat) : (rpAt i s n).ok := by
  have k0 := gN_lt4 s 0
  have k1 := gN_lt4 s (4 + 4 + 4)
  have k2 := gN_lt4 s (4 + 4 + 4 + 4)
  have k3 := gN_lt4 s (4 + 4 + 4 + 4 + 4)
  rw [show (0 + 4 : Nat) = 4 from rfl] at k0
  unfold RP.ok rpAt u32ok
  simp only
  refine ⟨by omega, by split <;> omega, by split <;> omega, by split <;> omega, ?_⟩
  intro b hb
  obtain ⟨j, _, rfl⟩ := List.mem_map.1 hb
  exact (bkAt_may s _).2
theorem rpAt_len (i : Bool) (s : ByteArray) (n : Nat) : (rpAt i s n).blocks.length = n := by unfold rpAt; simp
theorem zeroRP_ok : zeroRP.ok := by unfold RP.ok u32ok zeroRP; simp
theorem ofP_ok (p : PC) : (ofP p).ok := by unfold ofP; split; exact rpAt_ok _ _ _; exact zeroRP_ok
theorem ofE_zero (p : PC) (h : ofE p = 0) : (p.kind = 200 ∨ p.kind = 201) ∧ p.body.size = hd (isSk p.kind) + 24 * p.count.toNat ∧ rpMay (rpAt (isSk p.kind) p.body p.count.toNat) := by
  unfold ofE at h
  by_cases h1 : p.kind ≠ 200 ∧ p.kind ≠ 201
  · rw [if_pos h1] at h; cases h
  · rw [if_neg h1] at h
    by_cases h2 : p.body.size < hd (isSk p.kind) + 24 * p.count.toNat
    · rw [if_pos h2] at h; cases h
    · rw [if_neg h2] at h
      by_cases h3 : hd (isSk p.kind) + 24 * p.count.toNat < p.body.size
      · rw [if_pos h3] at h; cases h
      · rw [if_neg h3] at h
        by_cases h4 : rpMay (rpAt (isSk p.kind) p.body p.count.toNat)
        · exact ⟨by omega, by omega, h4⟩
        · rw [if_neg h4] at h; cases h
theorem ofP_may (p : PC) (h : ofE p = 0) : rpMay (ofP p) := by unfold ofP; rw [if_pos h]; exact (ofE_zero p h).2.2
theorem wrap_clk (x y : Nat) (hx : x < 4294967296) (hy : y < 4294967296) (h0 : 0 ≤ IntKind.i64.wrap ((x * 4294967296 + y : Nat) : Int)) (h1 : IntKind.i64.wrap ((x * 4294967296 + y : Nat) : Int) ≤ 1099511627776) : IntKind.i64.wrap ((x * 4294967296 + y : Nat) : Int) = ((x * 4294967296 + y : Nat) : Int) := by
  rw [IntWalk.i64_left] at *
  unfold wrap64 at *
  omega
theorem rpL_t (s : ByteArray) (n : Nat) : rpL (rpAt true s n) = be ((gN s 0 4 : Nat) : Int) 4 ++ (be (rpAt true s n).clock 8 ++ be ((gN s (4 + 4 + 4) (4 + 4 + 4 + 4) : Nat) : Int) 4 ++ be ((gN s (4 + 4 + 4 + 4) (4 + 4 + 4 + 4 + 4) : Nat) : Int) 4 ++ be ((gN s (4 + 4 + 4 + 4 + 4) (4 + 4 + 4 + 4 + 4 + 4) : Nat) : Int) 4) ++ bksL ((List.range n).map fun i => bkAt s (24 + 24 * i)) := by
  unfold rpL sentL
  have e : (rpAt true s n).isS = true := rfl
  rw [if_pos e]
  simp only [rpAt, if_true, hd]
theorem rpL_f (s : ByteArray) (n : Nat) : rpL (rpAt false s n) = be ((gN s 0 4 : Nat) : Int) 4 ++ bksL ((List.range n).map fun i => bkAt s (4 + 24 * i)) := by
  unfold rpL sentL
  have e : ¬ (rpAt false s n).isS = true := by intro h; cases h
  rw [if_neg e, List.append_nil]
  rfl
theorem rpAt_clk (s : ByteArray) (n : Nat) : (rpAt true s n).clock = IntKind.i64.wrap ((gN s 4 (4 + 4) * 4294967296 + gN s (4 + 4) (4 + 4 + 4) : Nat) : Int) := by unfold rpAt; simp only [if_true]
theorem rp_bytes_f (s : ByteArray) (n : Nat) (hs : s.size = hd false + 24 * n) : rpL (rpAt false s n) = by_ s := by
  have hs4 : s.size = 4 + 24 * n := hs
  rw [rpL_f, bksL_at s 4 n (by omega), be_sl s 0 4 4 (by omega) rfl, sl_cat s 0 _ _ (by omega) (by omega) (by omega), ← hs4, sl_all]
theorem rp_bytes_t (s : ByteArray) (n : Nat) (hs : s.size = hd true + 24 * n) (h0 : 0 ≤ (rpAt true s n).clock) (h1 : (rpAt true s n).clock ≤ 1099511627776) : rpL (rpAt true s n) = by_ s := by
  have hs4 : s.size = 24 + 24 * n := hs
  have hq1 := gN_lt4 s 4
  have hq2 := gN_lt4 s (4 + 4)
  rw [rpAt_clk] at h0 h1
  have hw := wrap_clk _ _ hq1 hq2 h0 h1
  rw [rpL_t, rpAt_clk, hw, be_8 _ _ hq1 hq2, bksL_at s 24 n (by omega)]
  rw [be_sl s 0 4 4 (by omega) rfl, be_sl s 4 (4 + 4) 4 (by omega) rfl, be_sl s (4 + 4) (4 + 4 + 4) 4 (by omega) rfl, be_sl s (4 + 4 + 4) (4 + 4 + 4 + 4) 4 (by omega) rfl, be_sl s (4 + 4 + 4 + 4) (4 + 4 + 4 + 4 + 4) 4 (by omega) rfl, be_sl s (4 + 4 + 4 + 4 + 4) (4 + 4 + 4 + 4 + 4 + 4) 4 (by omega) rfl]
  rw [sl_cat s 4 _ _ (by omega) (by omega) (by omega), sl_cat s 4 _ _ (by omega) (by omega) (by omega), sl_cat s 4 _ _ (by omega) (by omega) (by omega), sl_cat s 4 _ _ (by omega) (by omega) (by omega), sl_cat s 0 _ _ (by omega) (by omega) (by omega)]
  rw [show (4 + 4 + 4 + 4 + 4 + 4 : Nat) = 24 from rfl, sl_cat s 0 _ _ (by omega) (by omega) (by omega), ← hs4, sl_all]
/-- The bytes of what was found are the piece's. -/
theorem rp_forth (p : PC) (h : ofE p = 0) (h0 : 0 ≤ p.count) : rpP (ofP p) = p := by
  obtain ⟨hk, hs, hm⟩ := ofE_zero p h
  unfold ofP
  rw [if_pos h]
  unfold rpP
  rw [if_pos hm, rpAt_len]
  obtain ⟨c, k, s⟩ := p
  simp only at *
  have e1 : ((c.toNat : Nat) : Int) = c := by omega
  have e2 : (if (rpAt (isSk k) s c.toNat).isS then (200 : Int) else 201) = k := by
    unfold rpAt isSk
    simp only [decide_eq_true_eq]
    split <;> omega
  have e3 : rpL (rpAt (isSk k) s c.toNat) = by_ s := by
    obtain ⟨hsm, _, _⟩ := hm
    generalize isSk k = b at hs hsm
    cases b
    · exact rp_bytes_f s c.toNat hs
    · have hc := (sentMay_t _ _ _ _).1 hsm
      exact rp_bytes_t s c.toNat hs hc.1 hc.2
  rw [e1, e2, e3, ofL_by]
theorem getN_be_lt (k : Nat) (n : Int) (K : Nat) (h : ((getN (be n k) : Nat) : Int) = n % K) (h0 : 0 ≤ n) (h1 : n < K) : ((getN (be n k) : Nat) : Int) = n := by rw [h, Int.emod_eq_of_lt h0 h1]
/-- A number's bytes in the midst of others. -/
theorem gN_mid (A B C : List UInt8) (a b : Nat) (ha : a = A.length) (hb : b = A.length + B.length) : gN (ofL (A ++ (B ++ C))) a b = getN B := by
  subst ha hb
  rw [gN_ofL _ _ _ (by simp [List.length_append])]
  rw [← List.append_assoc, List.take_left' (by rw [List.length_append]), List.drop_left]
theorem bkAt_mid (A C : List UInt8) (p : BK) (a : Nat) (ha : a = A.length) (hm : bkMay p) (ho : p.ok) : bkAt (ofL (A ++ (bkL p ++ C))) a = p := by
  subst ha
  obtain ⟨h1, h2, h3, h4⟩ := hm
  obtain ⟨⟨o1, o1'⟩, ⟨o2, o2'⟩, ⟨o3, o3'⟩, ⟨o4, o4'⟩, o5, o5'⟩ := ho
  obtain ⟨src, frac, lost, high, jit, last, delay⟩ := p
  simp only at *
  unfold bkL bkAt
  simp only [List.append_assoc]
  have g0 : gN (ofL (A ++ (be src 4 ++ (be frac 1 ++ (be lost 3 ++ (be high 4 ++ (be jit 4 ++ (be last 4 ++ (be delay 4 ++ C))))))))) A.length (A.length + 4) = getN (be src 4) := gN_mid A (be src 4) _ _ _ rfl (by rw [be_len])
  have g1 := gN_mid (A ++ be src 4) (be frac 1) (be lost 3 ++ (be high 4 ++ (be jit 4 ++ (be last 4 ++ (be delay 4 ++ C))))) (A.length + 4) (A.length + 4 + 1) (by simp [be_len]) (by simp [be_len])
  have g2 := gN_mid (A ++ be src 4 ++ be frac 1) (be lost 3) (be high 4 ++ (be jit 4 ++ (be last 4 ++ (be delay 4 ++ C)))) (A.length + 4 + 1) (A.length + 4 + 1 + 3) (by simp [be_len]) (by simp [be_len])
  have g3 := gN_mid (A ++ be src 4 ++ be frac 1 ++ be lost 3) (be high 4) (be jit 4 ++ (be last 4 ++ (be delay 4 ++ C))) (A.length + 4 + 1 + 3) (A.length + 4 + 1 + 3 + 4) (by simp [be_len]) (by simp [be_len])
  have g4 := gN_mid (A ++ be src 4 ++ be frac 1 ++ be lost 3 ++ be high 4) (be jit 4) (be last 4 ++ (be delay 4 ++ C)) (A.length + 4 + 1 + 3 + 4) (A.length + 4 + 1 + 3 + 4 + 4) (by simp [be_len]) (by simp [be_len])
  have g5 := gN_mid (A ++ be src 4 ++ be frac 1 ++ be lost 3 ++ be high 4 ++ be jit 4) (be last 4) (be delay 4 ++ C) (A.length + 4 + 1 + 3 + 4 + 4) (A.length + 4 + 1 + 3 + 4 + 4 + 4) (by simp [be_len]) (by simp [be_len])
  have g6 := gN_mid (A ++ be src 4 ++ be frac 1 ++ be lost 3 ++ be high 4 ++ be jit 4 ++ be last 4) (be delay 4) C (A.length + 4 + 1 + 3 + 4 + 4 + 4) (A.length + 4 + 1 + 3 + 4 + 4 + 4 + 4) (by simp [be_len]) (by simp [be_len])
  simp only [List.append_assoc] at g1 g2 g3 g4 g5 g6
  rw [g0, g1, g2, g3, g4, g5, g6]
  have f0 := getN_be4 src
  have f1 := getN_be1 frac
  have f2 := getN_be3 lost
  have f3 := getN_be4 high
  have f4 := getN_be4 jit
  have f5 := getN_be4 last
  have f6 := getN_be4 delay
  have f7 : sgn ((getN (be lost 3) : Nat) : Int) = lost := by unfold sgn; split <;> omega
  rw [f7]
  have q0 : ((getN (be src 4) : Nat) : Int) = src := by omega
  have q1 : ((getN (be frac 1) : Nat) : Int) = frac := by omega
  have q3 : ((getN (be high 4) : Nat) : Int) = high := by omega
  have q4 : ((getN (be jit 4) : Nat) : Int) = jit := by omega
  have q5 : ((getN (be last 4) : Nat) : Int) = last := by omega
  have q6 : ((getN (be delay 4) : Nat) : Int) = delay := by omega
  rw [q0, q1, q3, q4, q5, q6]
theorem bks_back (A : List UInt8) : ∀ (n : Nat) (l : List BK) (C : List UInt8) , l.length = n → (∀ b ∈ l, bkMay b ∧ b.ok) → ((List.range n).map fun i => bkAt (ofL (A ++ (bksL l ++ C))) (A.length + 24 * i)) = l
  | 0, l, C, hl, h => by rw [List.length_eq_zero_iff.1 hl]; rfl
  | n + 1, l, C, hl, h => by
    obtain ⟨l', b, rfl⟩ : ∃ l' b, l = l' ++ [b] := ⟨l.dropLast, l.getLast (by intro h'; rw [h'] at hl; cases hl), (List.dropLast_concat_getLast _).symm⟩
    have hl' : l'.length = n := by simp at hl; exact hl
    rw [List.range_succ, List.map_append, bksL_append]
    have e : A ++ (bksL l' ++ bksL [b] ++ C) = A ++ (bksL l' ++ (bkL b ++ C)) := by
      show A ++ (bksL l' ++ (bkL b ++ []) ++ C) = _
      simp
    rw [e, bks_back A n l' (bkL b ++ C) hl' (fun x hx => h x (List.mem_append_left _ hx))]
    congr 1
    have hb := h b (List.mem_append_right _ (List.mem_singleton.2 rfl))
    have := bkAt_mid (A ++ bksL l') C b (A.length + 24 * n) (by rw [List.length_append, bksL_len, hl']) hb.1 hb.2
    rw [List.append_assoc] at this
    show [bkAt _ (A.length + 24 * n)] = [b]
    rw [this]
/-- A report that may be is found in its piece. -/
theorem rp_back (r : RP) (hm : rpMay r) (ho : r.ok) : ofE (rpP r) = 0 ∧ ofP (rpP r) = r := by
  obtain ⟨hsm, hl31, hbm⟩ := hm
  obtain ⟨o0, o1, o2, o3, ob⟩ := ho
  have hk : isSk (if r.isS then (200 : Int) else 201) = r.isS := by cases r.isS <;> rfl
  have hlen : (rpL r).length = hd r.isS + 24 * r.blocks.length := by
    unfold rpL sentL hd
    cases r.isS
    · simp [be_len, bksL_len]
    · simp [be_len, bksL_len]; omega
  have hA : rpAt r.isS (ofL (rpL r)) r.blocks.length = r := by
    have hbk : ((List.range r.blocks.length).map fun i => bkAt (ofL (rpL r)) (hd r.isS + 24 * i)) = r.blocks := by
      have := bks_back (be r.src 4 ++ sentL r) r.blocks.length r.blocks [] rfl (fun b hb => ⟨hbm b hb, ob b hb⟩)
      rw [List.append_nil] at this
      have e : (be r.src 4 ++ sentL r).length = hd r.isS := by
        unfold sentL hd
        cases r.isS <;> simp [be_len]
      rw [e] at this
      exact this
    have g0 : gN (ofL (rpL r)) 0 4 = getN (be r.src 4) := by
      have := gN_mid [] (be r.src 4) (sentL r ++ bksL r.blocks) 0 4 rfl (by simp [be_len])
      rw [← List.append_assoc] at this
      exact this
    have f0 := getN_be4 r.src
    have q0 : ((getN (be r.src 4) : Nat) : Int) = r.src := by obtain ⟨a, b⟩ := o0; omega
    unfold rpAt
    rw [hbk, g0, q0]
    obtain ⟨src, isS, clock, time, packets, bytes, l⟩ := r
    simp only at *
    cases isS
    · obtain ⟨rfl, rfl, rfl, rfl⟩ := (sentMay_f _ _ _ _).1 hsm
      rfl
    · obtain ⟨c0, c1⟩ := (sentMay_t _ _ _ _).1 hsm
      obtain ⟨a1, b1⟩ := o1
      obtain ⟨a2, b2⟩ := o2
      obtain ⟨a3, b3⟩ := o3
      obtain ⟨ch, cl, hc, hh, hcl⟩ : ∃ ch cl : Nat, clock = ((ch * 4294967296 + cl : Nat) : Int) ∧ ch < 4294967296 ∧ cl < 4294967296 := ⟨(clock / 4294967296).toNat, (clock % 4294967296).toNat, by omega, by omega, by omega⟩
      have e : rpL ⟨src, true, clock, time, packets, bytes, l⟩ = be src 4 ++ (be (ch : Int) 4 ++ (be (cl : Int) 4 ++ (be time 4 ++ (be packets 4 ++ (be bytes 4 ++ bksL l))))) := by
        unfold rpL sentL
        simp only [if_true]
        rw [hc, be_8 _ _ hh hcl]
        simp
      rw [e]
      have g1 := gN_mid (be src 4) (be (ch : Int) 4) (be (cl : Int) 4 ++ (be time 4 ++ (be packets 4 ++ (be bytes 4 ++ bksL l)))) 4 (4 + 4) (by simp [be_len]) (by simp [be_len])
      have g2 := gN_mid (be src 4 ++ be (ch : Int) 4) (be (cl : Int) 4) (be time 4 ++ (be packets 4 ++ (be bytes 4 ++ bksL l))) (4 + 4) (4 + 4 + 4) (by simp [be_len]) (by simp [be_len])
      have g3 := gN_mid (be src 4 ++ be (ch : Int) 4 ++ be (cl : Int) 4) (be time 4) (be packets 4 ++ (be bytes 4 ++ bksL l)) (4 + 4 + 4) (4 + 4 + 4 + 4) (by simp [be_len]) (by simp [be_len])
      have g4 := gN_mid (be src 4 ++ be (ch : Int) 4 ++ be (cl : Int) 4 ++ be time 4) (be packets 4) (be bytes 4 ++ bksL l) (4 + 4 + 4 + 4) (4 + 4 + 4 + 4 + 4) (by simp [be_len]) (by simp [be_len])
      have g5 := gN_mid (be src 4 ++ be (ch : Int) 4 ++ be (cl : Int) 4 ++ be time 4 ++ be packets 4) (be bytes 4) (bksL l) (4 + 4 + 4 + 4 + 4) (4 + 4 + 4 + 4 + 4 + 4) (by simp [be_len]) (by simp [be_len])
      simp only [List.append_assoc] at g2 g3 g4 g5
      rw [g1, g2, g3, g4, g5]
      have f1 := getN_be4 (ch : Int)
      have f2 := getN_be4 (cl : Int)
      have f3 := getN_be4 time
      have f4 := getN_be4 packets
      have f5 := getN_be4 bytes
      have q1 : getN (be (ch : Int) 4) = ch := by omega
      have q2 : getN (be (cl : Int) 4) = cl := by omega
      have q3 : ((getN (be time 4) : Nat) : Int) = time := by omega
      have q4 : ((getN (be packets 4) : Nat) : Int) = packets := by omega
      have q5 : ((getN (be bytes 4) : Nat) : Int) = bytes := by omega
      simp only [if_true]
      rw [q1, q2, q3, q4, q5, ← hc, IntWalk.i64_in clock ⟨by omega, by omega⟩]
  have hm : rpMay r := ⟨hsm, hl31, hbm⟩
  have hE : ofE (rpP r) = 0 := by
    unfold ofE rpP
    rw [if_pos hm]
    simp only [Int.toNat_natCast]
    rw [hk, ofL_size, hlen, if_neg (by cases r.isS <;> decide), if_neg (by omega), if_neg (by omega)]
    exact if_pos (by rw [hA]; exact hm)
  refine ⟨hE, ?_⟩
  unfold ofP
  rw [if_pos hE]
  unfold rpP
  rw [if_pos hm]
  simp only [Int.toNat_natCast]
  rw [hk, hA]
theorem rpP_inj (r q : RP) (hr : rpMay r) (ho : r.ok) (hq : rpMay q) (hqo : q.ok) : rpP r = rpP q ↔ r = q := by
  refine ⟨fun h => ?_, fun h => by rw [h]⟩
  rw [← (rp_back r hr ho).2, ← (rp_back q hq hqo).2, h]
end Go.Proofs.Ytkchhiiomahbaaa

