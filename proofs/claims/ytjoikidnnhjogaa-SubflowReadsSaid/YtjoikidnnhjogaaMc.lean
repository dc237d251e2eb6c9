/- What was packed is parsed again: plain facts. -/
import Derived.Test.YtjoikidnnhjogaaMb
import Derived.Test.YtjoikidnnhjogaaMa
import Derived.Deep.DeepCutAuto
import Derived.Deep.RegionWith
import Derived.Laws.AppendOwnNone
import Derived.Deep.QuietTactic
import Derived.BigQuiet
import Derived.WalkKit
import Derived.ProofKit
import Derived.OpenShut
import Derived.ShutString
import Derived.ChangeOld
import Derived.Below
import Derived.SliceStrings
import Derived.Lib.SmallJoins
import Derived.Deep.Strs
import Derived.RegionTactic
import Derived.BigRegion
import Derived.Deep.RegionHeld3
namespace Go.Proofs.Ytjoikidnnhjogaa
open Go.RowKit
set_option linter.unusedVariables false
theorem rd_ahead (l r : List UInt8) (n : Int) (hn : n = l.length) : rd (ofL (l ++ r), 0) n = (ofL r, 0) := by
  obtain ⟨_, h2, h3⟩ := raw_ahead l r 0 n hn
  unfold rd
  rw [h2, h3]
theorem rawT_ahead (l r : List UInt8) (n : Int) (hn : n = l.length) : rawT (ofL (l ++ r)) n = ofL l := (raw_ahead l r 0 n hn).1
theorem bes_cons (x : Int) (l : List Int) (k : Nat) : bes (x :: l) k = be x k ++ bes l k := by simp [bes]
theorem rds_ahead (os : List Int) (r : List UInt8) : ∀ k, k ≤ os.length → rds (ofL (bes os 4 ++ r), 0) k = (ofL (bes (os.drop k) 4 ++ r), 0)
  | 0, _ => by simp [rds]
  | k + 1, h => by
    have e : os.drop k = os[k] :: os.drop (k + 1) := List.drop_eq_getElem_cons (by omega)
    show rd (rds _ k) 4 = _
    rw [rds_ahead os r k (by omega), e, bes_cons, List.append_assoc, rd_ahead _ _ 4 (by rw [be_len]; rfl)]
theorem osF_ahead (os : List Int) (r : List UInt8) (ho : ∀ x ∈ os, 0 ≤ x ∧ x ≤ 4294967295) : osF (ofL (bes os 4 ++ r), 0) os.length = os := by
  apply List.ext_getElem
  · rw [osF_len]
  · intro i h1 h2
    have e : os.drop i = os[i] :: os.drop (i + 1) := List.drop_eq_getElem_cons h2
    obtain ⟨x1, x2⟩ := ho os[i] (List.getElem_mem h2)
    simp only [osF, List.getElem_map, List.getElem_range]
    rw [rds_ahead os r i (by omega), e, bes_cons, List.append_assoc, rawT_ahead _ _ 4 (by rw [be_len]; rfl), by_ofL, getN_be4]
    omega
theorem lastN_pad (l : List UInt8) (n : Nat) (h1 : 1 ≤ n) (h2 : n ≤ 255) : lastN (ofL (l ++ padL n)) = n := by
  unfold lastN
  rw [by_ofL, ofL_size]
  have hp := padL_len n h1
  rw [List.length_append, hp, List.getElem?_append_right (by omega)]
  unfold padL
  rw [List.getElem?_append_right (by simp; omega)]
  simp only [List.length_replicate]
  rw [show l.length + n - 1 - l.length - (n - 1) = 0 from by omega]
  simp
  omega
theorem padOk_pad (l : List UInt8) (n : Nat) (h1 : 1 ≤ n) (h2 : n ≤ 255) : padOk (ofL (l ++ padL n)) := by
  have hl := lastN_pad l n h1 h2
  have hp := padL_len n h1
  unfold padOk
  rw [hl, ofL_size, List.length_append, hp]
  refine ⟨by omega, by omega, by omega, ?_⟩
  rw [ofL_extract _ _ _ (by rw [List.length_append, hp]; exact Nat.le_refl _), show l.length + n - n = l.length from by omega, List.take_of_length_le (by rw [List.length_append, hp]; exact Nat.le_refl _), List.drop_left]
/-- ONE WAY: a packet that may be is parsed from its bytes. -/
theorem parse_pack (p : PK) (hm : mayOk p) (hk : p.ok) : parseR (ofL (packL p)) = .inr p := by
  obtain ⟨⟨k1, k2, hl, hf, ht⟩, p1, p2⟩ := hm
  obtain ⟨⟨s1, s2⟩, ⟨t1, t2⟩, ⟨q1, q2⟩, hos⟩ := hk
  obtain ⟨mrk, kind, seq, time, source, others, hx, prof, ext, data, pad⟩ := p
  simp only at *
  have hA : ∃ A : Nat, 128 + (others.length : Int) + (if decide (0 < pad) then 32 else 0) + (if hx then 16 else 0) = (A : Int) ∧ A / 64 = 2 ∧ A % 16 = others.length ∧ (A / 16 % 2 = 1 ↔ hx = true) ∧ (A / 32 % 2 = 1 ↔ 0 < pad) ∧ A ≤ 255 ∧ others.length ≤ 15 := by
    by_cases h0 : 0 < pad <;> cases hx
    · exact ⟨160 + others.length, by simp [h0]; omega, by omega, by omega, by simp; omega, by simp [h0]; omega, by omega, hl⟩
    · exact ⟨176 + others.length, by simp [h0]; omega, by omega, by omega, by simp; omega, by simp [h0]; omega, by omega, hl⟩
    · exact ⟨128 + others.length, by simp [h0], by omega, by omega, by simp; omega, by simp [h0]; omega, by omega, hl⟩
    · exact ⟨144 + others.length, by simp [h0]; omega, by omega, by omega, by simp; omega, by simp [h0]; omega, by omega, hl⟩
  obtain ⟨A, eA, A1, A2, A3, A4, A5, _⟩ := hA
  have hB : ∃ S : Nat, kind + (if mrk then 128 else 0) = (S : Int) ∧ (decide (S / 128 = 1)) = mrk ∧ ((S % 128 : Nat) : Int) = kind ∧ S ≤ 255 := by
    cases mrk
    · exact ⟨kind.toNat, by simp; omega, by simp; omega, by omega, by omega⟩
    · exact ⟨(kind + 128).toNat, by simp; omega, by simp; omega, by omega, by omega⟩
  obtain ⟨S, eS, S1, S2, S3⟩ := hB
  have hpk : packL ⟨mrk, kind, seq, time, source, others, hx, prof, ext, data, pad⟩ = be (A : Int) 1 ++ (be (S : Int) 1 ++ (be seq 2 ++ (be time 4 ++ (be source 4 ++ (bes others 4 ++ ((if hx then be prof 2 ++ be ((ext.size / 4 : Nat) : Int) 2 ++ by_ ext else []) ++ (by_ data ++ (if 0 < pad then padL pad.toNat else [])))))))) := by
    unfold packL hdrL
    simp only
    rw [eA, eS]
    simp only [List.append_assoc]
  rw [hpk]
  generalize hE : (if hx then be prof 2 ++ be ((ext.size / 4 : Nat) : Int) 2 ++ by_ ext else []) = E
  generalize hD : by_ data ++ (if 0 < pad then padL pad.toNat else []) = D
  have g1 : getN (by_ (rawT (ofL (be (A : Int) 1 ++ (be (S : Int) 1 ++ (be seq 2 ++ (be time 4 ++ (be source 4 ++ (bes others 4 ++ (E ++ D)))))))) 1)) = A := by
    rw [rawT_ahead _ _ 1 (by rw [be_len]; rfl), by_ofL]
    have := getN_be1 (A : Int)
    omega
  have g2 : rd (ofL (be (A : Int) 1 ++ (be (S : Int) 1 ++ (be seq 2 ++ (be time 4 ++ (be source 4 ++ (bes others 4 ++ (E ++ D))))))), 0) 1 = (ofL (be (S : Int) 1 ++ (be seq 2 ++ (be time 4 ++ (be source 4 ++ (bes others 4 ++ (E ++ D)))))), 0) := rd_ahead _ _ 1 (by rw [be_len]; rfl)
  have hsz : ¬ (ofL (be (A : Int) 1 ++ (be (S : Int) 1 ++ (be seq 2 ++ (be time 4 ++ (be source 4 ++ (bes others 4 ++ (E ++ D)))))))).size < 12 := by
    rw [ofL_size]; simp only [List.length_append, be_len]; omega
  have hH : hdrR (ofL (be (S : Int) 1 ++ (be seq 2 ++ (be time 4 ++ (be source 4 ++ (bes others 4 ++ (E ++ D))))))) A = (⟨mrk, kind, seq, time, source, others, hx, prof, ext, { data := #[] }, 0⟩, (ofL D, 0)) := by
    have b1 : rd (ofL (be (S : Int) 1 ++ (be seq 2 ++ (be time 4 ++ (be source 4 ++ (bes others 4 ++ (E ++ D)))))), 0) 1 = (ofL (be seq 2 ++ (be time 4 ++ (be source 4 ++ (bes others 4 ++ (E ++ D))))), 0) := rd_ahead _ _ 1 (by rw [be_len]; rfl)
    have b2 : rd (ofL (be seq 2 ++ (be time 4 ++ (be source 4 ++ (bes others 4 ++ (E ++ D))))), 0) 2 = (ofL (be time 4 ++ (be source 4 ++ (bes others 4 ++ (E ++ D)))), 0) := rd_ahead _ _ 2 (by rw [be_len]; rfl)
    have b3 : rd (ofL (be time 4 ++ (be source 4 ++ (bes others 4 ++ (E ++ D)))), 0) 4 = (ofL (be source 4 ++ (bes others 4 ++ (E ++ D))), 0) := rd_ahead _ _ 4 (by rw [be_len]; rfl)
    have b4 : rd (ofL (be source 4 ++ (bes others 4 ++ (E ++ D))), 0) 4 = (ofL (bes others 4 ++ (E ++ D)), 0) := rd_ahead _ _ 4 (by rw [be_len]; rfl)
    have b5 : rds (ofL (bes others 4 ++ (E ++ D)), 0) others.length = (ofL (E ++ D), 0) := by
      rw [rds_ahead others (E ++ D) others.length (Nat.le_refl _), List.drop_length]; rfl
    have v1 : getN (by_ (rawT (ofL (be (S : Int) 1 ++ (be seq 2 ++ (be time 4 ++ (be source 4 ++ (bes others 4 ++ (E ++ D))))))) 1)) = S := by
      rw [rawT_ahead _ _ 1 (by rw [be_len]; rfl), by_ofL]
      have := getN_be1 (S : Int)
      omega
    have v2 : (getN (by_ (rawT (ofL (be seq 2 ++ (be time 4 ++ (be source 4 ++ (bes others 4 ++ (E ++ D)))))) 2)) : Int) = seq := by
      rw [rawT_ahead _ _ 2 (by rw [be_len]; rfl), by_ofL, getN_be2]; omega
    have v3 : (getN (by_ (rawT (ofL (be time 4 ++ (be source 4 ++ (bes others 4 ++ (E ++ D))))) 4)) : Int) = time := by
      rw [rawT_ahead _ _ 4 (by rw [be_len]; rfl), by_ofL, getN_be4]; omega
    have v4 : (getN (by_ (rawT (ofL (be source 4 ++ (bes others 4 ++ (E ++ D)))) 4)) : Int) = source := by
      rw [rawT_ahead _ _ 4 (by rw [be_len]; rfl), by_ofL, getN_be4]; omega
    have v5 := osF_ahead others (E ++ D) hos
    unfold hdrR
    simp only [b1, b2, b3, b4, A2, b5, v1, v2, v3, v4, v5]
    cases hx
    · have hA3 : ¬ A / 16 % 2 = 1 := fun h => by have := A3.1 h; cases this
      obtain ⟨f1, f2⟩ := hf rfl
      have hE' : E = [] := by rw [← hE]; rfl
      simp only [if_neg hA3, hE', List.nil_append]
      rw [S1, S2, f1, empty_of_size f2, decide_eq_false hA3]
    · have hA3 : A / 16 % 2 = 1 := A3.2 rfl
      obtain ⟨f1, f2, f3, f4⟩ := ht rfl
      have hE' : E ++ D = be prof 2 ++ (be ((ext.size / 4 : Nat) : Int) 2 ++ (by_ ext ++ D)) := by rw [← hE]; simp
      have w1 : rd (ofL (be prof 2 ++ (be ((ext.size / 4 : Nat) : Int) 2 ++ (by_ ext ++ D))), 0) 2 = (ofL (be ((ext.size / 4 : Nat) : Int) 2 ++ (by_ ext ++ D)), 0) := rd_ahead _ _ 2 (by rw [be_len]; rfl)
      have w2 : rd (ofL (be ((ext.size / 4 : Nat) : Int) 2 ++ (by_ ext ++ D)), 0) 2 = (ofL (by_ ext ++ D), 0) := rd_ahead _ _ 2 (by rw [be_len]; rfl)
      have x1 : (getN (by_ (rawT (ofL (be prof 2 ++ (be ((ext.size / 4 : Nat) : Int) 2 ++ (by_ ext ++ D)))) 2)) : Int) = prof := by
        rw [rawT_ahead _ _ 2 (by rw [be_len]; rfl), by_ofL, getN_be2]; omega
      have x2 : 4 * (getN (by_ (rawT (ofL (be ((ext.size / 4 : Nat) : Int) 2 ++ (by_ ext ++ D))) 2)) : Int) = ((by_ ext).length : Int) := by
        rw [rawT_ahead _ _ 2 (by rw [be_len]; rfl), by_ofL, getN_be2, by_len]; omega
      have w3 : rd (ofL (by_ ext ++ D), 0) ((by_ ext).length : Int) = (ofL D, 0) := rd_ahead _ _ _ rfl
      have x3 : rawT (ofL (by_ ext ++ D)) ((by_ ext).length : Int) = ext := by rw [rawT_ahead _ _ _ rfl, ofL_by]
      simp only [if_pos hA3, hE', w1, w2, x1, x2, w3, x3]
      rw [S1, S2, decide_eq_true hA3]
  have hn1 : ¬ getN (by_ (rawT (ofL (be (A : Int) 1 ++ (be (S : Int) 1 ++ (be seq 2 ++ (be time 4 ++ (be source 4 ++ (bes others 4 ++ (E ++ D)))))))) 1)) / 64 ≠ 2 := by rw [g1]; omega
  have hh := hH
  rw [← g1] at hh
  have e1 : (rd (ofL (be (A : Int) 1 ++ (be (S : Int) 1 ++ (be seq 2 ++ (be time 4 ++ (be source 4 ++ (bes others 4 ++ (E ++ D))))))), 0) 1).1 = ofL (be (S : Int) 1 ++ (be seq 2 ++ (be time 4 ++ (be source 4 ++ (bes others 4 ++ (E ++ D)))))) := by rw [g2]
  rw [← e1] at hh
  by_cases h0 : 0 < pad
  · have hpo : padOk (ofL D) := by rw [← hD, if_pos h0]; exact padOk_pad _ _ (by omega) (by omega)
    have hla : lastN (ofL D) = pad.toNat := by rw [← hD, if_pos h0]; exact lastN_pad _ _ (by omega) (by omega)
    rw [parseR3 _ hsz hn1 (by rw [hh]; simp) (by rw [g1]; exact A4.2 h0) (by rw [hh]; exact hpo), hh]
    simp only [hla]
    have hd2 : (ofL D).extract 0 ((ofL D).size - pad.toNat) = data := by
      have hp := padL_len pad.toNat (by omega)
      rw [ofL_size, ← hD, if_pos h0, List.length_append, hp, ofL_extract _ _ _ (by rw [List.length_append, hp]; omega), show (by_ data).length + pad.toNat - pad.toNat = (by_ data).length from by omega, List.take_left, List.drop_zero, ofL_by]
    rw [hd2]
    congr 2
    omega
  · rw [parseR5 _ hsz hn1 (by rw [hh]; simp) (by rw [g1]; exact fun h => h0 (A4.1 h)), hh]
    simp only
    rw [← hD, if_neg h0, List.append_nil, ofL_by]
    congr 2
    omega
end Go.Proofs.Ytjoikidnnhjogaa

/- The statements' Told. -/
namespace Go.Proofs.Ytjoikidnnhjogaa
open Go.RowKit
set_option linter.unusedVariables false
section
variable {W w' : World} {g b : Nat} {c0 c1 c2 c3 c4 c5 c6 c7 c8 c9 c10 : Value}
end
theorem info64r : (Try.prog.info? 3).map (fun i => (i.zero, i.size, i.bytes)) = some (some (.int .i64 0), 1, 8) := by kernel_rfl
/-- What Told answers. -/
def ToldR (p : PK) (w : World) (e : Ending) (w' : World) : Prop := Below w.heap.size w w' ∧ ∃ a' c', e = .returned (.agg (p.rcells a' c')) ∧ w'.ownsRow w.heap.size 3 1 (.slice a' p.others.length c') p.others.length (p.others.map (Value.int .i64))
end Go.Proofs.Ytjoikidnnhjogaa

/- The statements' Cut of a packet. -/
namespace Go.Proofs.Ytjoikidnnhjogaa
open Go.RowKit
set_option linter.unusedVariables false
theorem own_made (W : World) (B n : Nat) (hB : B ≤ W.heap.size) (hn : n = W.heap.size) : (W.alloc (.cells #[] 26)).ownsRow B 26 1 (.slice (some ⟨n, 0, none⟩) 0 0) 0 [] := by
  subst hn; exact World.ownsRow_made _ _ _ hB (by decide) rfl
theorem append_none_stop {P : Program} {w : World} {ops : Array Oper} {rest : List Oper} {o : Oper} {a : Act} {Q : Exit → Act → World → Prop} (hgd : o.guard = none) (s x : Operand) (t : TypeId)
    (ho : o.op = .call { callee := .builtin .append, args := #[s, x], argTypes := #[t, t] }) (base : Nat) (e : TypeId) (i : TypeInfo) (size : Nat) (ht : P.underlying t = some (.slice e)) (hi : P.info? e = some i)
    (ad : Option Addr) (xs : List Value) (hs : a.eval s = .slice ad 0 0) (hown : w.ownsRow base e size (.slice ad 0 0) 0 xs) (hx : a.eval x = .slice none 0 0)
    (h : ∀ W ad', Hid (W = w ∧ ad' = ad) → wpList P ops Q rest (a.put o.dst (.slice ad' 0 0)) W) : wpList P ops Q (o :: rest) a w :=
  wpList_append_own_none hgd s x t ho base e i size ht hi _ 0 xs hs hown hx (h w ad (Lib.hid ⟨rfl, rfl⟩))
/-- A packet with short parts. -/
def cutP (p : PK) : PK := { p with others := p.others.take 17, ext := cutB p.ext 60, data := cutB p.data 60 }
/-- What Cut answers. -/
def CutR (p : PK) (w : World) (e : Ending) (w' : World) : Prop := Below w.heap.size w w' ∧ ∃ a' c', e = .returned (.agg ((cutP p).cells a' c')) ∧ w'.ownsRow w.heap.size 26 1 (.slice a' (cutP p).others.length c') (cutP p).others.length ((cutP p).others.map (Value.int .u32))
end Go.Proofs.Ytjoikidnnhjogaa

/- rtp: the document's May. -/
namespace Go.Proofs.Ytjoikidnnhjogaa
open Go.RowKit
set_option linter.unusedVariables false
theorem may_f (mrk : Bool) (kind seq time source : Int) (others : List Int) (prof : Int) (ext data : ByteArray) (pad : Int) : mayOk ⟨mrk, kind, seq, time, source, others, false, prof, ext, data, pad⟩ ↔ ((0 ≤ kind ∧ kind ≤ 127 ∧ others.length ≤ 15 ∧ prof = 0 ∧ ext.size = 0) ∧ 0 ≤ pad ∧ pad ≤ 255) := by unfold mayOk; rw [hdr_f]
theorem may_t (mrk : Bool) (kind seq time source : Int) (others : List Int) (prof : Int) (ext data : ByteArray) (pad : Int) : mayOk ⟨mrk, kind, seq, time, source, others, true, prof, ext, data, pad⟩ ↔ ((0 ≤ kind ∧ kind ≤ 127 ∧ others.length ≤ 15 ∧ 0 ≤ prof ∧ prof ≤ 65535 ∧ ext.size % 4 = 0 ∧ ext.size ≤ 262140) ∧ 0 ≤ pad ∧ pad ≤ 255) := by unfold mayOk; rw [hdr_t]
end Go.Proofs.Ytjoikidnnhjogaa

/- rtp: the statements' Same. -/
namespace Go.Proofs.Ytjoikidnnhjogaa
open Go.RowKit
set_option linter.unusedVariables false
end Go.Proofs.Ytjoikidnnhjogaa

/- A packet that came in, opened. -/
namespace Go.Proofs.Ytjoikidnnhjogaa
open Go.ChangeShapes Go.WideShapes Go.ChangeAt Go.RowKit Go.Joins
open Go.ChangeMaps (open_string shut_string)
set_option linter.unusedVariables false
theorem cellsStr : Try.prog.cellsOf 9 = 1 := by kernel_rfl
theorem cellsInt : Try.prog.cellsOf 3 = 1 := by kernel_rfl
theorem u32_bd {a : Int} (h : (Lit.int .u32 a).wf = true) : 0 ≤ a ∧ a ≤ 4294967295 := by
  simp [Lit.wf, IntKind.min, IntKind.max, IntKind.bits, IntKind.signed] at h; omega
theorem some_of_lt {α : Type} {l : List α} {i : Nat} (h : i < l.length) : ∃ y, l[i]? = some y := ⟨_, List.getElem?_eq_getElem h⟩
end Go.Proofs.Ytjoikidnnhjogaa

/- RtpApart: the walk. -/
namespace Go.Proofs.Ytjoikidnnhjogaa.rtpApart
open Go.RowKit
set_option linter.unusedVariables false
/-- What Pack answers. -/
def packS (p : PK) : ByteArray := if mayOk p then ofL (packL p) else { data := #[] }
theorem packS_bad {p : PK} (h : ¬ mayOk p) : packS p = { data := #[] } := by rw [packS, if_neg h]
theorem packS_good {p : PK} (h : mayOk p) : (packS p).size ≠ 0 := by
  rw [packS, if_pos h, ofL_size]
  unfold packL hdrL
  simp only [List.length_append, be_len]
  omega
theorem apart {p q : PK} (hp : mayOk p) (hq : mayOk q) (kp : p.ok) (kq : q.ok) : packS p = packS q ↔ p = q := by
  constructor
  · intro h
    rw [packS, packS, if_pos hp, if_pos hq] at h
    have h1 := parse_pack p hp kp
    have h2 := parse_pack q hq kq
    rw [h, h2] at h1
    exact (Sum.inr.inj h1).symm
  · intro h; rw [h]
theorem cutP_ok {p : PK} (h : p.ok) : (cutP p).ok := by
  obtain ⟨h1, h2, h3, h4⟩ := h
  exact ⟨h1, h2, h3, fun x hx => h4 x (List.mem_of_mem_take hx)⟩
theorem cutP_small (p : PK) : (cutP p).others.length ≤ 17 ∧ (cutP p).ext.size ≤ 60 ∧ (cutP p).data.size ≤ 60 := ⟨by simp only [cutP, List.length_take]; omega, (cut_size p.ext 60).1, (cut_size p.data 60).1⟩
theorem pk_store_only (W : World) (g : Nat) (d0 d1 d2 d3 d4 d5 d6 d7 d8 d9 d10 : Value) :
    Only g W (((((((((((W.setCell ⟨g, 0, none⟩ d0).setCell ⟨g, 1, none⟩ d1).setCell ⟨g, 2, none⟩ d2).setCell ⟨g, 3, none⟩ d3).setCell ⟨g, 4, none⟩ d4).setCell ⟨g, 5, none⟩ d5).setCell ⟨g, 6, none⟩ d6).setCell ⟨g, 7, none⟩ d7).setCell ⟨g, 8, none⟩ d8).setCell ⟨g, 9, none⟩ d9).setCell ⟨g, 10, none⟩ d10) :=
  (((((((((((Only.refl _ _).setCell 0 _).setCell 1 _).setCell 2 _).setCell 3 _).setCell 4 _).setCell 5 _).setCell 6 _).setCell 7 _).setCell 8 _).setCell 9 _).setCell 10 _
theorem below_store {w W : World} {n g : Nat} (h : Below n w W) (hg : n ≤ g) (d0 d1 d2 d3 d4 d5 d6 d7 d8 d9 d10 : Value) : Below n w (((((((((((W.setCell ⟨g, 0, none⟩ (d0)).setCell ⟨g, 1, none⟩ (d1)).setCell ⟨g, 2, none⟩ (d2)).setCell ⟨g, 3, none⟩ (d3)).setCell ⟨g, 4, none⟩ (d4)).setCell ⟨g, 5, none⟩ (d5)).setCell ⟨g, 6, none⟩ (d6)).setCell ⟨g, 7, none⟩ (d7)).setCell ⟨g, 8, none⟩ (d8)).setCell ⟨g, 9, none⟩ (d9)).setCell ⟨g, 10, none⟩ (d10)) :=
  (((((((((((h.setCell (p := ⟨g, 0, none⟩) hg _).setCell (p := ⟨g, 1, none⟩) hg _).setCell (p := ⟨g, 2, none⟩) hg _).setCell (p := ⟨g, 3, none⟩) hg _).setCell (p := ⟨g, 4, none⟩) hg _).setCell (p := ⟨g, 5, none⟩) hg _).setCell (p := ⟨g, 6, none⟩) hg _).setCell (p := ⟨g, 7, none⟩) hg _).setCell (p := ⟨g, 8, none⟩) hg _).setCell (p := ⟨g, 9, none⟩) hg _).setCell (p := ⟨g, 10, none⟩) hg _)
theorem str_eq {s t : ByteArray} {b : Bool} (h : s = t ↔ b = true) : (s.toList == t.toList) = b := by
  rw [Bool.eq_iff_iff, beq_iff_eq, ByteArray.toList_eq, ByteArray.toList_eq, ← h]
  constructor
  · intro e
    obtain ⟨⟨l⟩⟩ := s
    obtain ⟨⟨m⟩⟩ := t
    simp at e
    rw [e]
  · rintro rfl; rfl
end Go.Proofs.Ytjoikidnnhjogaa.rtpApart

/- piece's law: awake; PieceSplits: the walk. -/
namespace Go.Proofs.Ytjoikidnnhjogaa
open Go.RowKit
set_option linter.unusedVariables false
def awP : PC := ⟨1, 203, { data := #[97, 98, 99, 100] }⟩
theorem aw_pack : pcsS [awP] = { data := #[129, 203, 0, 1, 97, 98, 99, 100] } := by kernel_rfl
theorem readsP_one (w : World) (p : PC) (T : TypeId) : ReadsP (w.alloc (.cells #[.int .i64 p.count, .int .i64 p.kind, .string p.body] T)) (some ⟨w.heap.size, 0, none⟩) [p] := by
  refine .inr ⟨_, 0, rfl, fun i hi j v hv => ?_⟩
  obtain rfl : i = 0 := by simpa using hi
  have hj : j < 3 := (List.getElem?_eq_some_iff.1 hv).1
  rw [show 0 + (0 * 3 + j) = j from by omega, cell_of_row _ w.heap.size j _ _ (0, 0) (heap_alloc_new w _), ← Array.getElem?_toList]
  exact hv
namespace pieceSplits
end pieceSplits
end Go.Proofs.Ytjoikidnnhjogaa

/- PieceJoins: the walk. -/
namespace Go.Proofs.Ytjoikidnnhjogaa
open Go.RowKit
set_option linter.unusedVariables false
/-- Behind 'append' to a row of the call's own: what is kept. -/
structure Grew (base : Nat) (e : TypeId) (v : Value) (w w' : World) : Prop where
  own : ∀ {B2 : Nat} {e2 : TypeId} {m2 : Nat} {v2 : Value} {n2 : Nat} {ys : List Value}, e2 ≠ e → w.ownsRow B2 e2 m2 v2 n2 ys → w'.ownsRow B2 e2 m2 v2 n2 ys
  own2 : ∀ {B2 : Nat} {e2 : TypeId} {m2 : Nat} {v2 : Value} {n2 : Nat} {ys : List Value}, (v2.ownBlock = none ∨ v2.ownBlock ≠ v.ownBlock) → w.ownsRow B2 e2 m2 v2 n2 ys → w'.ownsRow B2 e2 m2 v2 n2 ys
  block : ∀ {k : Nat} {o : Obj}, w.heap[k]? = some o → some k ≠ v.ownBlock → w'.heap[k]? = some o
  size : w.heap.size ≤ w'.heap.size
  below : ∀ {B0 : Nat} {w0 : World}, B0 ≤ base → Below B0 w0 w → Below B0 w0 w'
theorem own_apart {w : World} {B B2 : Nat} {e e2 : TypeId} {m m2 : Nat} {v v2 : Value} {n n2 : Nat} {xs ys : List Value} (h : w.ownsRow B e m v n xs) (h2 : w.ownsRow B2 e2 m2 v2 n2 ys) (hne : e2 ≠ e) : v2.ownBlock = none ∨ v2.ownBlock ≠ v.ownBlock := by
  rcases h2.2 with ⟨rfl, _⟩ | ⟨g, cap, cur, rfl, _, hg, _⟩
  · exact .inl rfl
  · exact .inr (row_neP h hg (by intro c p e; simp at e; exact hne e.2.1))
theorem step_app {P : Program} {ops : Array Oper} {o : Oper} {a : Act} {w : World} {K : Act → World → Prop} {Q : Exit → Act → World → Prop} {E : Prop} (hgd : o.guard = none) (s x : Operand) (t : TypeId)
    (ho : o.op = .call { callee := .builtin .append, args := #[s, x], argTypes := #[t, t] })
    (base : Nat) (e : TypeId) (i : TypeInfo) (z : Value) (size bytes : Nat) (ht : P.underlying t = some (.slice e)) (hi : P.info? e = some i) (hz : i.zero = some z)
    (hsize : i.size = size) (hby : i.bytes = bytes) (hzs : z.cells.size = size) (hsz : 0 < size)
    (v : Value) (n : Nat) (xs : List Value) (hs : a.eval s = v) (hown : w.ownsRow base e size v n xs)
    (ad : Nat) (cs : Array Value) (hx : a.eval x = .slice (some ⟨ad, 0, none⟩) 1 1) (hblk : w.heap[ad]? = some (.cells cs e (0, 0))) (hcs : cs.size = size) (h1 : ∀ u ∈ cs.toList, u.oneCell' = true)
    (h63 : n + 1 ≤ maxLen) (hbytes : (n + 1) * bytes ≤ 140737488355328) (hbase : base ≤ w.heap.size)
    (h : ∀ v' w', w'.ownsRow base e size v' (n + 1) (xs ++ cs.toList) → Grew base e v w w' → K (a.put o.dst v') w') :
    if Region.wanted o (yielded ops a.tmps) = true then Oper.wp P o a w K Q else E := by
  refine step_append_own hgd s x t ho base e i z size bytes ht hi hz hsize hby hzs hsz v n xs hs hown ⟨ad, 0, none⟩ 1 1 cs.toList hx (by simp [hcs]) ?_ h1 h63 hbytes hbase ?_
  · intro j u hj
    rw [addr_add, cell_of_row _ ad j cs e (0, 0) hblk, ← Array.getElem?_toList]
    exact hj
  · intro v' w' hown' hgrow _
    refine h v' w' hown' ⟨fun hne h2 => h2.kept hgrow (own_apart hown h2 hne), fun hne h2 => h2.kept hgrow hne, fun hk hne => ?_, hgrow.size, fun hB hb => hb.grown hgrow (by omega) (fun k hk => Nat.le_trans hB (hown.lt k hk).1)⟩
    rw [hgrow.block _ (lt_of_block hk) hne]
    exact hk
theorem heap_at_drew {W : World} {g : Nat} {o : Obj} (h : W.heap[g]? = some o) : W.drew.heap[g]? = some o := h
/-- A piece in a variable. -/
def BoxAt (W : World) (g : Nat) (p : PC) : Prop := W.heap[g]? = some (.cells #[.int .i64 p.count, .int .i64 p.kind, .string p.body] 23 (0, 0))
theorem boxAt_S {W : World} {g : Nat} {p : PC} (h : BoxAt W g p) : W.cell? ⟨g, 0, none⟩ = some (.int .i64 p.count) ∧ W.cell? ⟨g, 1, none⟩ = some (.int .i64 p.kind) ∧ W.cell? ⟨g, 2, none⟩ = some (.string p.body) ∧ BoxAt W g p := by
  have f := fun i => cell_of_row W g i _ _ (0, 0) h
  exact ⟨by simpa using f 0, by simpa using f 1, by simpa using f 2, h⟩
theorem BoxAt.alloc {W : World} {g : Nat} {p : PC} (h : BoxAt W g p) (o : Obj) : BoxAt (W.alloc o) g p := heap_at_old _ _ _ _ h
theorem BoxAt.drew {W : World} {g : Nat} {p : PC} (h : BoxAt W g p) : BoxAt W.drew g p := h
theorem BoxAt.grew {W W' : World} {g base : Nat} {e : TypeId} {v : Value} {p : PC} (h : BoxAt W g p) (hg : Grew base e v W W') (hne : some g ≠ v.ownBlock) : BoxAt W' g p := hg.block h hne
theorem BoxAt.later {W W' : World} {g : Nat} {p : PC} (h : BoxAt W g p) (hb : Below W.heap.size W W') : BoxAt W' g p := by unfold BoxAt; rw [hb.block g (lt_of_block h)]; exact h
theorem own_lt_ne {w : World} {B : Nat} {e : TypeId} {m : Nat} {v : Value} {n : Nat} {xs : List Value} (h : w.ownsRow B e m v n xs) (g : Nat) (hg : w.heap.size ≤ g) : some g ≠ v.ownBlock := fun he => by
  have := (h.lt g he.symm).2; omega
theorem piece_at {w wr : World} {a : Option Addr} {n k : Nat} (h : Recs [isNum .i64, isNum .i64, isText] w a n) (hb : Below w.heap.size w wr) (hk : k < n) :
    ∃ b off, a = some ⟨b, off, none⟩ ∧ ∃ (c kd : Int) (s : ByteArray), wr.cell? ⟨b, off + k * 3, none⟩ = some (.int .i64 c) ∧ wr.cell? ⟨b, off + k * 3 + 1, none⟩ = some (.int .i64 kd) ∧ wr.cell? ⟨b, off + k * 3 + 2, none⟩ = some (.string s) ∧ s.size ≤ 9223372036854775807 := by
  rcases h with h | ⟨b, off, rfl, hlt, hc⟩
  · omega
  · obtain ⟨v0, h0, c, rfl, _⟩ := hc k hk 0 _ rfl
    obtain ⟨v1, h1, m, rfl, hm⟩ := hc k hk 1 _ rfl
    obtain ⟨v2, h2, s, rfl, hs⟩ := hc k hk 2 _ rfl
    refine ⟨b, off, rfl, c, m, s, ?_, ?_, ?_, ?_⟩
    · rw [hb.cell (p := ⟨b, off + k * 3, none⟩) hlt]; exact h0
    · rw [hb.cell (p := ⟨b, off + k * 3 + 1, none⟩) hlt]; exact h1
    · rw [hb.cell (p := ⟨b, off + k * 3 + 2, none⟩) hlt]; exact h2
    · unfold maxLen at hs; exact hs

theorem own_laterN {w w' : World} {B : Nat} {e : TypeId} {m : Nat} {v : Value} {n : Nat} {xs : List Value} (h : w.ownsRow B e m v n xs) (hb : Below w.heap.size w w') : w'.ownsRow B e m v n xs :=
  h.kept (row := none) ⟨hb.os, hb.tape, hb.output, hb.size, fun k hk _ => hb.block k hk⟩ (by cases hv : v.ownBlock <;> simp)
theorem apart_base {w : World} {B2 : Nat} {e : TypeId} {m : Nat} {v v5 : Value} {n : Nat} {xs : List Value} (h5 : ∀ k, v5.ownBlock = some k → k < B2) (h : w.ownsRow B2 e m v n xs) : v5.ownBlock = none ∨ v5.ownBlock ≠ v.ownBlock := by
  cases hv : v5.ownBlock with
  | none => exact .inl rfl
  | some k =>
    refine .inr (fun e => ?_)
    have h1 := h5 k hv
    have h2 := (h.lt k e.symm).1
    omega
/-- All may be, and are short. -/
def okL (l : List PC) : Prop := allMay l ∧ ∀ q ∈ l, q.body.size ≤ 60
theorem okL_nil : okL [] := ⟨fun p hp => (by cases hp), fun p hp => (by cases hp)⟩
theorem okL_snoc {l : List PC} {p : PC} (h : okL l) (hp : pcMay p) (hs : p.body.size ≤ 60) : okL (l ++ [p]) := by
  refine ⟨?_, ?_⟩
  · intro q hq
    rcases List.mem_append.1 hq with hq | hq
    · exact h.1 q hq
    · rw [List.mem_singleton] at hq; subst hq; exact hp
  · intro q hq
    rcases List.mem_append.1 hq with hq | hq
    · exact h.2 q hq
    · rw [List.mem_singleton] at hq; subst hq; exact hs
theorem okL_app {l m : List PC} (h : okL l) (h2 : okL m) : okL (l ++ m) :=
  ⟨fun q hq => by rcases List.mem_append.1 hq with hq | hq; exact h.1 q hq; exact h2.1 q hq, fun q hq => by rcases List.mem_append.1 hq with hq | hq; exact h.2 q hq; exact h2.2 q hq⟩
end Go.Proofs.Ytjoikidnnhjogaa

/- rtp: the document's Pack. -/
namespace Go.Proofs.Ytjoikidnnhjogaa
open Go.RowKit rtpApart
set_option linter.unusedVariables false
theorem put_as (S n : Int) (size : Nat) (w : World) (hS : S = (size : Int)) (h1 : -9223372036854775808 ≤ n) (h2 : n ≤ 9223372036854775807) (h4 : size ≤ 8) :
    Calls Try.prog 71 #[.int .i64 n, .int .i64 S] w fun e w' => e = .returned (.string (ofL (be n size))) ∧ Below w.heap.size w w' := by
  rw [hS]; exact put_any n size w h1 h2 h4
theorem sum_run (L M N : List UInt8) (h : L ++ M = N) (hl : N.length ≤ 1000000000) (W : World) : Sem.run Try.prog (Op.stringOp .add (ofL L) (ofL M)) W = Result.ok (.string (ofL N)) W := by
  rw [← h, ofL_append]
  refine run_string_add_sum _ _ _ ?_
  rw [ofL_size, ofL_size]
  have := congrArg List.length h
  rw [List.length_append] at this
  omega
theorem below_step {w W W' : World} (a : Below w.heap.size w W) (b : Below W.heap.size W W') : Below w.heap.size w W' := a.trans (b.mono a.size)
theorem be_byte (n : Nat) (h : n ≤ 255) : be (((n : Nat) : Int)) 1 = [UInt8.ofNat n] := by
  rw [be_succ, be_zero]
  congr 2
  simp
  omega
theorem hdrL_may (p : PK) (hp : hdrOk p) : (hdrL p (decide (0 < p.pad))).length ≤ 263000 := hdrL_len p _ hp
end Go.Proofs.Ytjoikidnnhjogaa
