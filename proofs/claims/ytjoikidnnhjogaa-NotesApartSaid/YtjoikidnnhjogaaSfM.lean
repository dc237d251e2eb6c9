/- Subflow: plain facts on which paths there are. -/
import Derived.Test.YtjoikidnnhjogaaRtpM
import Derived.Test.YtjoikidnnhjogaaAtN
namespace Go.Proofs.Ytjoikidnnhjogaa
open Go.RowKit
set_option linter.unusedVariables false
instance pcS_dec (a b : PC) : Decidable (a = b) := decidable_of_iff (a.count = b.count ∧ a.kind = b.kind ∧ a.body = b.body) (by
  obtain ⟨x, y, z⟩ := a
  obtain ⟨x2, y2, z2⟩ := b
  simp)
/-- A path that is there, or not; a source's. -/
structure AD where
  path : Int
  up : Bool
  rate : Int
def zeroAD : AD := ⟨0, false, 0⟩
structure AS where
  src : Int
  all : List AD
def zeroAS : AS := ⟨0, []⟩
def AD.vals (a : AD) : List Value := [.int .i64 a.path, .bool a.up, .int .i64 a.rate]
def upN (b : Bool) : Int := if b then 1 else 0
def adMay (last : Int) (a : AD) : Prop := last < a.path ∧ a.path ≤ 15 ∧ 0 ≤ a.rate ∧ a.rate ≤ 65535
instance adMay_dec (n : Int) (a : AD) : Decidable (adMay n a) := by unfold adMay; infer_instance
/-- The path ahead. -/
def prevA (l : List AD) : Nat → Int
  | 0 => 0
  | k + 1 => (l[k]?.getD zeroAD).path
def adsMay (l : List AD) : Prop := ∀ k, k < l.length → adMay (prevA l k) (l[k]?.getD zeroAD)
instance adsMay_dec (l : List AD) : Decidable (adsMay l) := by unfold adsMay; infer_instance
def adL (a : AD) : List UInt8 := be a.path 1 ++ be (upN a.up) 1 ++ be a.rate 2
theorem adL_len (a : AD) : (adL a).length = 4 := by unfold adL; simp only [List.length_append, be_len]
def adsL : List AD → List UInt8
  | [] => []
  | b :: l => adL b ++ adsL l
theorem adsL_append : ∀ l m, adsL (l ++ m) = adsL l ++ adsL m
  | [], m => rfl
  | p :: l, m => by show adL p ++ adsL (l ++ m) = _; rw [adsL_append l m, ← List.append_assoc]; rfl
theorem adsL_len : ∀ l, (adsL l).length = 4 * l.length
  | [] => rfl
  | p :: l => by
    show (adL p ++ adsL l).length = 4 * (l.length + 1)
    rw [List.length_append, adL_len, adsL_len l]; omega
theorem adsL_take (l : List AD) (k : Nat) (h : k < l.length) : adsL (l.take (k + 1)) = adsL (l.take k) ++ adL (l[k]?.getD zeroAD) := by
  rw [List.take_succ_eq_append_getElem h, adsL_append]
  congr 1
  show adL _ ++ [] = _
  rw [List.append_nil]
  simp [h]
def asL (a : AS) : List UInt8 := be a.src 4 ++ adsL a.all
/-- Adverts as a piece. -/
def asP (a : AS) : PC := if adsMay a.all then ⟨2, 211, ofL (asL a)⟩ else zeroPC
/-- What the program reads of a piece. -/
def adNx (st : ByteArray × Int) : ByteArray × Int := rd (rd (rd st 1) 1) 2
def adRd (st : ByteArray × Int) : AD := ⟨(getN (by_ (rawT st.1 1)) : Nat), decide (((getN (by_ (rawT (rd st 1).1 1)) : Nat) : Int) = 1), (getN (by_ (rawT (rd (rd st 1) 1).1 2)) : Nat)⟩
def adsRd : Nat → ByteArray × Int → List AD
  | 0, _ => []
  | n + 1, st => if st.1.size = 0 then [] else adRd st :: adsRd n (adNx st)
def asRd (s : ByteArray) : AS := ⟨(getN (by_ (rawT s 4)) : Nat), adsRd 15 (rd (s, 0) 4)⟩
def toSE (p : PC) : Int := if p.kind ≠ 211 ∨ p.count ≠ 2 then 5 else if asP (asRd p.body) = p then 0 else 1
def toS (p : PC) : AS := if toSE p = 0 then asRd p.body else zeroAS
theorem adRd_ahead (a : AD) (r : List UInt8) (h0 : 0 ≤ a.path) (h1 : a.path ≤ 15) (h2 : 0 ≤ a.rate) (h3 : a.rate ≤ 65535) : adRd (ofL (adL a ++ r), 0) = a ∧ adNx (ofL (adL a ++ r), 0) = (ofL r, 0) := by
  obtain ⟨path, up, rate⟩ := a
  simp only at h0 h1 h2 h3
  have e : adL ⟨path, up, rate⟩ ++ r = be path 1 ++ (be (upN up) 1 ++ (be rate 2 ++ r)) := by unfold adL; simp
  rw [e]
  unfold adRd adNx
  simp only
  rw [rd_ahead (be path 1) _ 1 (by rw [be_len]; rfl), rd_ahead (be (upN up) 1) _ 1 (by rw [be_len]; rfl), rd_ahead (be rate 2) _ 2 (by rw [be_len]; rfl)]
  simp only
  rw [rawT_ahead (be path 1) _ 1 (by rw [be_len]; rfl), rawT_ahead (be (upN up) 1) _ 1 (by rw [be_len]; rfl), rawT_ahead (be rate 2) _ 2 (by rw [be_len]; rfl), by_ofL, by_ofL, by_ofL]
  have g1 := getN_be1 path
  have g2 := getN_be1 (upN up)
  have g3 := getN_be2 rate
  refine ⟨?_, trivial⟩
  have u : decide (((getN (be (upN up) 1) : Nat) : Int) = 1) = up := by
    cases up
    · rw [show ((getN (be (upN false) 1) : Nat) : Int) = 0 from by rw [g2]; rfl]; rfl
    · rw [show ((getN (be (upN true) 1) : Nat) : Int) = 1 from by rw [g2]; rfl]; rfl
  rw [u, show ((getN (be path 1) : Nat) : Int) = path from by omega, show ((getN (be rate 2) : Nat) : Int) = rate from by omega]
theorem adsRd_ahead : ∀ (l : List AD) (n : Nat), l.length ≤ n → (∀ a ∈ l, 0 ≤ a.path ∧ a.path ≤ 15 ∧ 0 ≤ a.rate ∧ a.rate ≤ 65535) → adsRd n (ofL (adsL l), 0) = l
  | [], 0, _, _ => rfl
  | [], n + 1, _, _ => by
    show (if (ofL []).size = 0 then [] else _) = []
    rw [if_pos (by rw [ofL_size]; rfl)]
  | a :: l, 0, h, _ => by simp at h
  | a :: l, n + 1, h, hm => by
    have h1 := hm a List.mem_cons_self
    have e := adRd_ahead a (adsL l) h1.1 h1.2.1 h1.2.2.1 h1.2.2.2
    show (if (ofL (adL a ++ adsL l)).size = 0 then [] else adRd (ofL (adL a ++ adsL l), 0) :: adsRd n (adNx (ofL (adL a ++ adsL l), 0))) = a :: l
    rw [if_neg (by rw [ofL_size, List.length_append, adL_len]; omega), e.1, e.2, adsRd_ahead l n (by simp at h; omega) (fun b hb => hm b (List.mem_cons_of_mem _ hb))]
theorem ad_mem (l : List AD) (k : Nat) (h : k < l.length) : l[k]?.getD zeroAD ∈ l := by
  rw [List.getElem?_eq_getElem h]
  exact List.getElem_mem h
theorem ad_get (l : List AD) (a : AD) (h : a ∈ l) : ∃ k, k < l.length ∧ l[k]?.getD zeroAD = a := by
  obtain ⟨k, hk, e⟩ := List.getElem_of_mem h
  exact ⟨k, hk, by rw [List.getElem?_eq_getElem hk]; exact e⟩
theorem prevA_ge (l : List AD) (h : adsMay l) : ∀ k, k ≤ l.length → (k : Int) ≤ prevA l k
  | 0, _ => Int.le_refl _
  | k + 1, hk => by
    have h1 := prevA_ge l h k (by omega)
    have h2 := (h k (by omega)).1
    show ((k + 1 : Nat) : Int) ≤ (l[k]?.getD zeroAD).path
    omega
theorem adsMay_len (l : List AD) (h : adsMay l) : l.length ≤ 15 := by
  by_cases h0 : l.length = 0
  · omega
  · have h1 := prevA_ge l h (l.length - 1) (by omega)
    have h2 := h (l.length - 1) (by omega)
    have h3 := h2.1
    have h4 := h2.2.1
    omega
theorem adsMay_all (l : List AD) (h : adsMay l) : ∀ a ∈ l, 0 ≤ a.path ∧ a.path ≤ 15 ∧ 0 ≤ a.rate ∧ a.rate ≤ 65535 := by
  intro a ha
  obtain ⟨k, hk, rfl⟩ := ad_get l a ha
  have h1 := prevA_ge l h k (by omega)
  obtain ⟨h2, h3, h4, h5⟩ := h k hk
  exact ⟨by omega, h3, h4, h5⟩
theorem as_rd (a : AS) (h : adsMay a.all) (h0 : 0 ≤ a.src) (h1 : a.src ≤ 4294967295) : asRd (asP a).body = a := by
  have e : asP a = ⟨2, 211, ofL (be a.src 4 ++ adsL a.all)⟩ := by unfold asP; rw [if_pos h]; rfl
  rw [e]
  unfold asRd
  simp only
  rw [rd_ahead (be a.src 4) _ 4 (by rw [be_len]; rfl), rawT_ahead (be a.src 4) _ 4 (by rw [be_len]; rfl), by_ofL, adsRd_ahead a.all 15 (adsMay_len _ h) (adsMay_all _ h)]
  have g := getN_be4 a.src
  obtain ⟨src, all⟩ := a
  simp only at *
  rw [show ((getN (be src 4) : Nat) : Int) = src from by omega]
theorem as_back (a : AS) (h : adsMay a.all) (h0 : 0 ≤ a.src) (h1 : a.src ≤ 4294967295) : toSE (asP a) = 0 ∧ toS (asP a) = a := by
  have e := as_rd a h h0 h1
  have hk : asP a = ⟨2, 211, ofL (asL a)⟩ := by unfold asP; rw [if_pos h]
  have hE : toSE (asP a) = 0 := by
    unfold toSE
    rw [if_neg (by rw [hk]; simp), e, if_pos rfl]
  exact ⟨hE, by unfold toS; rw [if_pos hE, e]⟩
end Go.Proofs.Ytjoikidnnhjogaa

