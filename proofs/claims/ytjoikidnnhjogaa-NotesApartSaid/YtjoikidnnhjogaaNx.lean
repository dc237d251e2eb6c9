/- notes.Name: mayBe, behind. -/
import Derived.Test.YtjoikidnnhjogaaNtE
import Derived.Test.YtjoikidnnhjogaaAtN
import Derived.Test.YtjoikidnnhjogaaPcC
import Derived.Test.YtjoikidnnhjogaaPcP
import Derived.Deep.DeepCutAuto
import Derived.Test.YtjoikidnnhjogaaRpO
import Derived.Test.YtjoikidnnhjogaaPcT
import Derived.Deep.QuietTactic
import Derived.BigQuiet
import Derived.Test.YtjoikidnnhjogaaRtpM
import Derived.Test.YtjoikidnnhjogaaNtK
import Derived.Test.YtjoikidnnhjogaaSfM
namespace Go.Proofs.Ytjoikidnnhjogaa
open Go.RowKit
set_option linter.unusedVariables false
structure NM where
  src : Int
  text : ByteArray
def zeroNM : NM := ⟨0, { data := #[] }⟩
def NM.vals (n : NM) : List Value := [.int .u32 n.src, .string n.text]
def nmMay (n : NM) : Prop := n.text.size ≠ 0 ∧ n.text.size ≤ 255
instance nmMay_dec (n : NM) : Decidable (nmMay n) := by unfold nmMay; infer_instance
/-- How many bytes go behind so many of a text. -/
def bhd (s : Nat) : Nat := 1 + upW (6 + s + 1)
theorem bhd_le (s : Nat) : 1 ≤ bhd s ∧ bhd s ≤ 4 := by unfold bhd upW; omega
def nmL (n : NM) : List UInt8 := be n.src 4 ++ (be 1 1 ++ be ((n.text.size : Nat) : Int) 1) ++ (by_ n.text ++ List.replicate (bhd n.text.size) 0)
theorem nmL_len (n : NM) : (nmL n).length = 6 + n.text.size + bhd n.text.size := by
  unfold nmL
  simp only [List.length_append, be_len, by_len, List.length_replicate]
  omega
def nmsL : List NM → List UInt8
  | [] => []
  | n :: l => nmL n ++ nmsL l
theorem nmsL_append : ∀ l m, nmsL (l ++ m) = nmsL l ++ nmsL m
  | [], m => rfl
  | p :: l, m => by show nmL p ++ nmsL (l ++ m) = _; rw [nmsL_append l m, ← List.append_assoc]; rfl
theorem nmsL_take (l : List NM) (k : Nat) (h : k < l.length) : nmsL (l.take (k + 1)) = nmsL (l.take k) ++ nmL (l[k]?.getD zeroNM) := by
  rw [List.take_succ_eq_append_getElem h, nmsL_append]
  congr 1
  show nmL _ ++ [] = _
  rw [List.append_nil]
  simp [h]
def nmsMay (l : List NM) : Prop := l.length ≤ 31 ∧ ∀ k, k < l.length → nmMay (l[k]?.getD zeroNM)
instance nmsMay_dec (l : List NM) : Decidable (nmsMay l) := by unfold nmsMay; infer_instance
def nmsP (l : List NM) : PC := if nmsMay l then ⟨(l.length : Nat), 202, ofL (nmsL l)⟩ else zeroPC
theorem nmMay_any (src : Int) (t : ByteArray) (w : World) (ht : t.size ≤ 9223372036854775807) (b : Bool) (hb : b = true ↔ t.size ≠ 0 ∧ t.size ≤ 255) :
    Calls Try.prog 81 #[.agg #[.int .u32 src, .string t]] w fun e w' => e = .returned (.bool b) ∧ Below w.heap.size w w' := by
  have hX1 := atC_new 78 w #[.int .u32 src, .string t]
  have hb1 : Below w.heap.size w (w.alloc (.cells #[.int .u32 src, .string t] 78)) := (Below.refl _ _).alloc (Nat.le_refl _) _
  obtain ⟨x0, x1⟩ := hX1.cells2
  obtain ⟨bE, hbE⟩ : ∃ bE, t.toList.isEmpty = bE := ⟨_, rfl⟩
  have HbE := Lib.hid hbE
  cases bE
  · have h0 : t.size ≠ 0 := by have := HbE.out; rw [isEmpty_size, decide_eq_false_iff_not] at this; exact this
    by_cases h1 : t.size ≤ 255
    · obtain rfl : b = true := hb.2 ⟨h0, h1⟩
      have h1' : (t.size : Int) ≤ 255 := by omega
      clear hb h0 h1
      go_enter Try.func81, Try.ntmps81
      go_wp2
      go_ret
      exact ⟨rfl, hb1⟩
    · obtain rfl : b = false := by cases b with | false => rfl | true => exact absurd (hb.1 rfl).2 h1
      have h1' : ¬ (t.size : Int) ≤ 255 := by omega
      clear hb h0 h1
      go_enter Try.func81, Try.ntmps81
      go_wp2
      go_ret
      exact ⟨rfl, hb1⟩
  · have h0 : t.size = 0 := by have := HbE.out; rw [isEmpty_size, decide_eq_true_eq] at this; exact this
    obtain rfl : b = false := by cases b with | false => rfl | true => exact absurd h0 (hb.1 rfl).1
    clear hb h0
    go_enter Try.func81, Try.ntmps81
    go_wp2
    go_ret
    exact ⟨rfl, hb1⟩
theorem behind_any (src : Int) (t : ByteArray) (w : World) (ht : t.size ≤ 100000) :
    Calls Try.prog 82 #[.agg #[.int .u32 src, .string t]] w fun e w' => e = .returned (.int .i64 ((bhd t.size : Nat) : Int)) ∧ Below w.heap.size w w' := by
  have hX1 := atC_new 78 w #[.int .u32 src, .string t]
  have hb1 : Below w.heap.size w (w.alloc (.cells #[.int .u32 src, .string t] 78)) := (Below.refl _ _).alloc (Nat.le_refl _) _
  obtain ⟨x0, x1⟩ := hX1.cells2
  have HU := Lib.hid (fun W (S : Int) (hS : S = ((6 + t.size + 1 : Nat) : Int)) => upToWord_at S (6 + t.size + 1) W hS (by omega))
  have hB : ((bhd t.size : Nat) : Int) = 1 + ((upW (6 + t.size + 1) : Nat) : Int) := by unfold bhd; omega
  have hlt := upW_lt (6 + t.size + 1)
  rw [hB]
  generalize upW (6 + t.size + 1) = U at HU hlt
  clear hB
  have h0 : (0 : Int) ≤ (t.size : Int) := by omega
  have h1 : (t.size : Int) ≤ 100000 := by omega
  go_enter Try.func82, Try.ntmps82
  go_wp2_with fail
  refine (HU.out _ _ (by omega)).mono ?_
  rintro e w' ⟨rfl, rfl⟩
  go_wp2
  go_ret
  exact ⟨rfl, hb1⟩
end Go.Proofs.Ytjoikidnnhjogaa

/- notes.Names. -/
namespace Go.Proofs.Ytjoikidnnhjogaa
open Go.RowKit
set_option linter.unusedVariables false
/-- A slice of names. -/
def ReadsN (w : World) (a : Option Addr) (l : List NM) : Prop :=
  l = [] ∨ ∃ b off, a = some ⟨b, off, none⟩ ∧ ∀ i, i < l.length → ∀ j v, ((l[i]?.getD zeroNM).vals)[j]? = some v → w.cell? ⟨b, off + (i * 2 + j), none⟩ = some v
theorem ReadsN.later {w w' : World} {a : Option Addr} {l : List NM} (h : ReadsN w a l) (hb : Below w.heap.size w w') : ReadsN w' a l := by
  rcases h with h | ⟨b, off, ha, hc⟩
  · exact .inl h
  · exact .inr ⟨b, off, ha, fun i hi j v hv => cell_later hb (hc i hi j v hv)⟩
theorem ReadsN.at {w : World} {a : Option Addr} {l : List NM} (h : ReadsN w a l) {i : Nat} (hi : i < l.length) :
    ∃ b off, a = some ⟨b, off, none⟩ ∧ w.cell? ⟨b, off + i * 2, none⟩ = some (.int .u32 (l[i]?.getD zeroNM).src) ∧ w.cell? ⟨b, off + i * 2 + 1, none⟩ = some (.string (l[i]?.getD zeroNM).text) := by
  rcases h with h | ⟨b, off, ha, hc⟩
  · simp [h] at hi
  · exact ⟨b, off, ha, hc i hi 0 _ rfl, hc i hi 1 _ rfl⟩
theorem nm_S {W : World} {g : Nat} {c0 c1 : Value} (h : AtC 78 W g #[c0, c1]) : W.cell? ⟨g, 0, none⟩ = some c0 ∧ W.cell? ⟨g, 1, none⟩ = some c1 ∧ AtC 78 W g #[c0, c1] := by
  obtain ⟨a0, a1⟩ := h.cells2
  exact ⟨a0, a1, h⟩
theorem nm_bes (L : List UInt8) (src : Int) (t : ByteArray) : L ++ bes [src] 4 ++ bes [1, ((t.size : Nat) : Int)] 1 ++ cat [t, ofL (List.replicate (bhd t.size) 0)] = L ++ nmL ⟨src, t⟩ := by
  unfold nmL
  simp [bes, cat, by_ofL]
theorem nmsL_len_le : ∀ l : List NM, (∀ k, k < l.length → (l[k]?.getD zeroNM).text.size ≤ 100000) → (nmsL l).length ≤ l.length * 100010
  | [], _ => by simp [nmsL]
  | n :: l, h => by
    have h0 := h 0 (by simp)
    have hl := nmsL_len_le l (fun k hk => by have := h (k + 1) (by simpa using hk); simpa using this)
    have := nmL_len n
    have := bhd_le n.text.size
    show (nmL n ++ nmsL l).length ≤ (l.length + 1) * 100010
    simp only [List.length_append]
    have h1 : n.text.size ≤ 100000 := by simpa using h0
    omega
set_option maxRecDepth 100000 in
set_option maxHeartbeats 6400000 in
theorem names_any (l : List NM) (a : Option Addr) (n c : Nat) (w : World) (hn : n = l.length) (hr : ReadsN w a l) (hl : l.length ≤ 1000) (ht : ∀ k, k < l.length → (l[k]?.getD zeroNM).text.size ≤ 100000) :
    Calls Try.prog 36 #[.slice a n c] w fun e w' =>
      e = .returned (.agg #[.int .i64 (nmsP l).count, .int .i64 (nmsP l).kind, .string (nmsP l).body]) ∧ Below w.heap.size w w' := by
  subst hn
  obtain ⟨q, hq⟩ : ∃ q, nmsP l = q := ⟨_, rfl⟩
  rw [hq]
  have hqy : nmsMay l → Hid (q = ⟨(l.length : Nat), 202, ofL (nmsL l)⟩) := fun h => Lib.hid (by rw [← hq]; unfold nmsP; rw [if_pos h])
  have hqn : ¬ nmsMay l → Hid (q = zeroPC) := fun h => Lib.hid (by rw [← hq]; unfold nmsP; rw [if_neg h])
  clear hq
  have HR := Lib.hid (fun W (h : Below w.heap.size w W) => hr.later h)
  have HTX := Lib.hid ht
  have hlen : Hid (∀ k, k ≤ l.length → (nmsL (l.take k)).length ≤ 200000000) := Lib.hid (fun k hk => by
    have h := nmsL_len_le (l.take k) (fun j hj => by
      rw [List.length_take] at hj
      rw [List.getElem?_take_of_lt (by omega)]
      exact ht j (by omega))
    rw [List.length_take] at h
    omega)
  clear hr ht
  have hY1 := pc_new w zeroPC
  unfold zeroPC at hY1
  simp only at hY1
  have hb1 : Below w.heap.size w (w.alloc (.cells #[.int .i64 0, .int .i64 0, .string { data := #[] }] 33)) := (Below.refl _ _).alloc (Nat.le_refl _) _
  go_enter Try.func36, Try.ntmps36
  go_upto_region 1 with fail
  generalize w.alloc (.cells #[.int .i64 0, .int .i64 0, .string { data := #[] }] 33) = w3 at hY1 hb1 ⊢
  generalize hg : w.heap.size = g at hY1 hb1 HR ⊢
  have HG := Lib.hid hg
  clear hg
  have hg3 := hY1.lt
  by_cases h31 : l.length ≤ 31
  · have h31' : ¬ (31 : Int) < (l.length : Int) := by omega
    have hO := out_new w3 w3.heap.size (Nat.le_refl _)
    have hY4 := hY1.alloc (.cells #[.slice none 0 0] 137)
    have hbb4 := hb1.alloc (by omega) (.cells #[.slice none 0 0] 137)
    have hst : Hid (nmsL (l.take 0) = []) := Lib.hid (by simp [nmsL])
    have hstep : Hid (∀ k, k < l.length → nmsL (l.take k) ++ nmL (l[k]?.getD zeroNM) = nmsL (l.take (k + 1))) := Lib.hid (fun k hk => by rw [nmsL_take l k hk])
    have hfin : Hid (nmsL (l.take l.length) = nmsL l) := Lib.hid (by rw [List.take_length])
    go_upto_region 4 with fail
    generalize w3.alloc (.cells #[.slice none 0 0] 137) = w4 at hO hY4 hbb4 ⊢
    obtain ⟨bo, hbo⟩ : ∃ bo, w3.heap.size = bo := ⟨_, rfl⟩
    rw [hbo] at hO hg3 ⊢
    clear hbo hY1 hb1
    go_wp2_with fail
    go_loopw [12] (fun i wr => ∃ (k : Nat) (v : Value), k ≤ l.length ∧ i = .int .i64 k ∧ PcAt wr g ⟨0, 0, { data := #[] }⟩ ∧ OutAt wr bo bo v (nmsL (l.take k)) ∧ Below g w wr ∧ Hid (∀ j, j < k → nmMay (l[j]?.getD zeroNM))) (fun i _ => l.length - (intOf i).toNat)
    case atStart => exact ⟨0, _, Nat.zero_le _, rfl, hY4, by rw [hst.out]; exact hO, hbb4, Lib.hid (fun j hj => by omega)⟩
    case round =>
      obtain ⟨k, v7, hk, rfl, hY7, hO7, hbb7, hJ⟩ := hrel
      clear hY4 hO hbb4
      have hgo : g ≤ bo := by omega
      by_cases hlt : k < l.length
      · obtain ⟨ab, off, rfl, x0, x1⟩ := (HR.out _ hbb7).at hlt
        have HK := Lib.hid (hstep.out k hlt)
        have HL := Lib.hid (hlen.out k (by omega))
        have htx := HTX.out k hlt
        have hJ2 : Hid (nmMay (l[k]?.getD zeroNM) → ∀ j, j < k + 1 → nmMay (l[j]?.getD zeroNM)) := Lib.hid (fun h j hj => by
          by_cases hjk : j = k
          · subst hjk; exact h
          · exact hJ.out j (by omega))
        have hJ3 : Hid (¬ nmMay (l[k]?.getD zeroNM) → ¬ nmsMay l) := Lib.hid (fun h h2 => h (h2.2 k hlt))
        clear hJ
        generalize l[k]?.getD zeroNM = p at x0 x1 HK hJ2 hJ3 htx
        generalize nmsL (l.take k) = LK at hO7 HK HL
        obtain ⟨src, t⟩ := p
        simp only at x0 x1 htx
        have hO8 := hO7.alloc (.cells #[.int .u32 src, .string t] 78)
        have hY8 := hY7.alloc (.cells #[.int .u32 src, .string t] 78)
        have hgb : wr.heap.size ≠ bo := by have := hO7.lt; omega
        have hX8 := atC_new 78 wr #[.int .u32 src, .string t]
        have hbb8 := hbb7.alloc (by have := hY7.lt; omega) (.cells #[.int .u32 src, .string t] 78)
        clear hO7 hY7 hbb7
        go_upto_region 7 with fail
        generalize wr.alloc (.cells #[.int .u32 src, .string t] 78) = w8 at hO8 hY8 hX8 hbb8 ⊢
        generalize wr.heap.size = ge at hX8 hgb ⊢
        clear x0 x1
        obtain ⟨x0, x1⟩ := hX8.cells2
        by_cases hp : nmMay ⟨src, t⟩
        · have HJ := Lib.hid (hJ2.out hp)
          have hp2 : t.size ≠ 0 ∧ t.size ≤ 255 := hp
          clear hJ2 hJ3
          go_wp2_with fail
          refine (nmMay_any src t _ (by omega) true ⟨fun _ => hp2, fun _ => rfl⟩).mono ?_
          rintro e w9 ⟨rfl, hb9⟩
          have hX9 := hX8.later hb9
          have hY9 : PcAt w9 g ⟨0, 0, { data := #[] }⟩ := hY8.later hb9
          have hO9 := OutAt.later hO8 hb9
          have hbb9 := hbb8.trans (hb9.mono (by have := hY8.lt; omega))
          clear hX8 hY8 hO8 hbb8 hb9 x0 x1
          obtain ⟨x0, x1⟩ := hX9.cells2
          have HN := Lib.hid (nm_bes LK src t)
          have hBH := Lib.hid (fun W => behind_any src t W (by omega))
          have hZr := Lib.hid (fun W => zeros_any (bhd t.size) W (by have := bhd_le t.size; omega))
          have hbl := bhd_le t.size
          have hcl : (cat [t, ofL (List.replicate (bhd t.size) 0)]).length ≤ 1000 := by
            simp [cat, by_len, by_ofL]
            omega
          generalize ofL (List.replicate (bhd t.size) 0) = ZS at hZr HN hcl
          generalize bhd t.size = BH at hBH hZr hbl
          have h255 : t.size ≤ 255 := hp2.2
          have HLL := HL.out
          have hg9 := hY9.lt
          have q9 := hO9.lt
          go_upto_region 9 with fail
          go_region_held3 (fun W => W.cell? ⟨ge, 0, none⟩ = some (.int .u32 src) ∧ W.cell? ⟨ge, 1, none⟩ = some (.string t) ∧ AtC 78 W ge #[.int .u32 src, .string t]) (first | (go_keep; done) | exact nm_S (AtC.drew (by go_split_ands; assumption)) | exact nm_S (AtC.alloc (by go_split_ands; assumption) _) | exact nm_S (AtC.oth (by go_split_ands; assumption) (by decide) (by assumption) hgb) | exact nm_S (AtC.later (by go_split_ands; assumption) (by assumption)) | (go_split_ands; assumption)) (first | (go_at_call 65; refine (u32_g bo bo v7 LK [src] #[.int .u32 src] 1 _ w9 _ hO9 ?x1 ?x2 ?x3 rfl rfl ?x4 ?x5).mono ?_; (case x1 => go_grown); (case x2 => (repeat (first | with_reducible refine heap_at_drew ?_ | (with_reducible refine heap_at_new _ _ _ ?_; first | rfl | (simp; done)) | with_reducible refine heap_at_old _ _ _ _ ?_))); (case x3 => have := hO9.lt; first | omega | (simp; omega)); (case x4 => simp; omega); (case x5 => simp); rintro e w10 ⟨rfl, v10, hO10, h10, ho10⟩; have q10 := hO10.lt; have hb10 : Below g w w10 := Below.trans (by repeat (first | with_reducible exact hbb9 | with_reducible refine Below.drew ?_ | with_reducible refine Below.alloc ?_ (by first | omega | (simp; omega)) _)) (h10.mono (by omega)); have hY10 : PcAt w10 g ⟨0, 0, { data := #[] }⟩ := PcAt.others (by repeat (first | with_reducible exact hY9 | with_reducible refine PcAt.drew ?_ | with_reducible refine PcAt.alloc ?_ _)) (by omega) ho10) | (go_at_call 66; refine (u8_g bo bo v10 (LK ++ bes [src] 4) [1, ((t.size : Nat) : Int)] #[.int .i64 1, .int .i64 (t.size : Nat)] 2 _ w10 _ hO10 ?x1 ?x2 ?x3 rfl rfl ?x4 ?x5).mono ?_; (case x1 => go_grown); (case x2 => (repeat (first | with_reducible refine heap_at_drew ?_ | (with_reducible refine heap_at_new _ _ _ ?_; first | rfl | (simp; done)) | with_reducible refine heap_at_old _ _ _ _ ?_ | (refine ho10 _ _ ?_ (by first | omega | (simp; omega)) (by intro cur p e; cases e))))); (case x3 => have := hO9.lt; first | omega | (simp; omega)); (case x4 => simp [bes_len]; omega); (case x5 => simp); rintro e w11 ⟨rfl, v11, hO11, h11, ho11⟩; have q11 := hO11.lt; have hb11 : Below g w w11 := Below.trans (by repeat (first | with_reducible exact hb10 | with_reducible refine Below.drew ?_ | with_reducible refine Below.alloc ?_ (by first | omega | (simp; omega)) _)) (h11.mono (by omega)); have hY11 : PcAt w11 g ⟨0, 0, { data := #[] }⟩ := PcAt.others (by repeat (first | with_reducible exact hY10 | with_reducible refine PcAt.drew ?_ | with_reducible refine PcAt.alloc ?_ _)) (by omega) ho11) | (go_at_call 82; refine (hBH.out _).mono ?_; rintro e w12 ⟨rfl, h12⟩; have hO12 := OutAt.later (show OutAt _ bo bo v11 _ from hO11) h12; have q12 := hO12.lt; have hb12 : Below g w w12 := hb11.trans (h12.mono (by omega)); have hY12 : PcAt w12 g ⟨0, 0, { data := #[] }⟩ := PcAt.later hY11 h12) | (go_at_call 68; refine (hZr.out _).mono ?_; rintro e w13 ⟨rfl, h13⟩; have hO13 := OutAt.later (show OutAt _ bo bo v11 _ from hO12) h13; have q13 := hO13.lt; have hb13 : Below g w w13 := hb12.trans (h13.mono (by omega)); have hY13 : PcAt w13 g ⟨0, 0, { data := #[] }⟩ := PcAt.later hY12 h13) | (go_at_call 67; refine (outRaw_g bo bo v11 (LK ++ bes [src] 4 ++ bes [1, ((t.size : Nat) : Int)] 1) [t, ZS] #[.string t, .string ZS] 2 _ w13 _ hO13 ?x1 ?x2 ?x3 rfl rfl ?x4 ?x5).mono ?_; (case x1 => go_grown); (case x2 => (repeat (first | with_reducible refine heap_at_drew ?_ | (with_reducible refine heap_at_new _ _ _ ?_; first | rfl | (simp; done)) | with_reducible refine heap_at_old _ _ _ _ ?_))); (case x3 => first | omega | (simp; omega)); (case x4 => simp [bes_len]; omega); (case x5 => simp); rintro e w14 ⟨rfl, v14, hO14, h14, ho14⟩; have q14 := hO14.lt; have hb14 : Below g w w14 := Below.trans (by repeat (first | with_reducible exact hb13 | with_reducible refine Below.drew ?_ | with_reducible refine Below.alloc ?_ (by first | omega | (simp; omega)) _)) (h14.mono (by omega)); have hY14 : PcAt w14 g ⟨0, 0, { data := #[] }⟩ := PcAt.others (by repeat (first | with_reducible exact hY13 | with_reducible refine PcAt.drew ?_ | with_reducible refine PcAt.alloc ?_ _)) (by omega) ho14))
          all_goals
            rw [HN.out, HK.out] at hO14
            go_wp2
            go_roundw
            case rel => exact ⟨k + 1, v14, by omega, by go_num, hY14, hO14, hb14, HJ⟩
            case measure => simp [intOf]; omega
        · have hqv := (hqn (hJ3.out hp)).out
          subst hqv
          clear hJ2 hJ3 hqy hqn HK HL
          go_wp2_with fail
          refine (nmMay_any src t _ (by omega) false ⟨fun h => absurd h (by decide), fun h => absurd h hp⟩).mono ?_
          rintro e w11 ⟨rfl, hbA⟩
          have hY11 : PcAt w11 g ⟨0, 0, { data := #[] }⟩ := hY8.later hbA
          have hbb11 := hbb8.trans (hbA.mono (by have := hY8.lt; omega))
          clear hX8 hY8 hO8 hbb8 hbA x0 x1
          obtain ⟨y0, y1, y2, _⟩ := pcAt_S hY11
          have f0 : w11.frozen? ⟨g, 0, none⟩ = false := by simp [World.frozen?, show w11.heap[g]? = _ from hY11]
          have f1 : w11.frozen? ⟨g, 1, none⟩ = false := by simp [World.frozen?, show w11.heap[g]? = _ from hY11]
          have f2 : w11.frozen? ⟨g, 2, none⟩ = false := by simp [World.frozen?, show w11.heap[g]? = _ from hY11]
          have hz : PcAt (((w11.setCell ⟨g, 0, none⟩ (.int .i64 0)).setCell ⟨g, 1, none⟩ (.int .i64 0)).setCell ⟨g, 2, none⟩ (.string { data := #[] })) g ⟨0, 0, { data := #[] }⟩ := block_setCell (i := 2) (u := .string { data := #[] }) (block_setCell (i := 1) (u := .int .i64 0) (block_setCell (i := 0) (u := .int .i64 0) hY11))
          have hbz := (((hbb11.setCell (p := ⟨g, 0, none⟩) (Nat.le_refl _) (.int .i64 0)).setCell (p := ⟨g, 1, none⟩) (Nat.le_refl _) (.int .i64 0)).setCell (p := ⟨g, 2, none⟩) (Nat.le_refl _) (.string { data := #[] }))
          go_wp2
          generalize ((w11.setCell ⟨g, 0, none⟩ (.int .i64 0)).setCell ⟨g, 1, none⟩ (.int .i64 0)).setCell ⟨g, 2, none⟩ (.string { data := #[] }) = wz at hz hbz ⊢
          obtain ⟨d0, d1, d2, _⟩ := pcAt_S hz
          refine bodyPost_ret (v := .agg #[.int .i64 0, .int .i64 0, .string { data := #[] }]) (by simp [results, Try.results36, go_sem, d0, d1, d2]) rfl ⟨rfl, by rw [HG.out]; exact hbz⟩
      · obtain rfl : k = l.length := by omega
        have hqv := (hqy ⟨h31, fun j hj => hJ.out j hj⟩).out
        have HQ := Lib.hid hqv
        rw [hfin.out] at hO7
        clear hqv hqy hqn hJ hst hstep hlen hfin hlt
        have HBy := Lib.hid (bytes_any bo bo v7 _ wr hO7)
        generalize ofL (nmsL l) = RS at HQ HBy
        obtain ⟨y0, y1, y2, _⟩ := pcAt_S hY7
        have f0 : wr.frozen? ⟨g, 0, none⟩ = false := by simp [World.frozen?, show wr.heap[g]? = _ from hY7]
        have f1 : wr.frozen? ⟨g, 1, none⟩ = false := by simp [World.frozen?, show wr.heap[g]? = _ from hY7]
        have f2 : wr.frozen? ⟨g, 2, none⟩ = false := by simp [World.frozen?, show wr.heap[g]? = _ from hY7]
        have hz : PcAt (((wr.setCell ⟨g, 0, none⟩ (.int .i64 (l.length : Nat))).setCell ⟨g, 1, none⟩ (.int .i64 202)).setCell ⟨g, 2, none⟩ (.string RS)) g ⟨(l.length : Nat), 202, RS⟩ := block_setCell (i := 2) (u := .string RS) (block_setCell (i := 1) (u := .int .i64 202) (block_setCell (i := 0) (u := .int .i64 (l.length : Nat)) hY7))
        have hbz := (((hbb7.setCell (p := ⟨g, 0, none⟩) (Nat.le_refl _) (.int .i64 (l.length : Nat))).setCell (p := ⟨g, 1, none⟩) (Nat.le_refl _) (.int .i64 202)).setCell (p := ⟨g, 2, none⟩) (Nat.le_refl _) (.string RS))
        go_wp2_with fail
        refine HBy.out.mono ?_
        rintro e w' ⟨rfl, rfl⟩
        go_wp2
        generalize ((wr.setCell ⟨g, 0, none⟩ (.int .i64 (l.length : Nat))).setCell ⟨g, 1, none⟩ (.int .i64 202)).setCell ⟨g, 2, none⟩ (.string RS) = wz at hz hbz ⊢
        obtain ⟨d0, d1, d2, _⟩ := pcAt_S hz
        refine bodyPost_ret (v := .agg #[.int .i64 (l.length : Nat), .int .i64 202, .string RS]) (by simp [results, Try.results36, go_sem, d0, d1, d2]) rfl ⟨by rw [HQ.out], by rw [HG.out]; exact hbz⟩
  · have hqv := (hqn (fun h => h31 h.1)).out
    subst hqv
    have h31' : (31 : Int) < (l.length : Int) := by omega
    clear hqy hqn hlen HTX
    obtain ⟨y0, y1, y2, _⟩ := pcAt_S hY1
    have f0 : w3.frozen? ⟨g, 0, none⟩ = false := by simp [World.frozen?, show w3.heap[g]? = _ from hY1]
    have f1 : w3.frozen? ⟨g, 1, none⟩ = false := by simp [World.frozen?, show w3.heap[g]? = _ from hY1]
    have f2 : w3.frozen? ⟨g, 2, none⟩ = false := by simp [World.frozen?, show w3.heap[g]? = _ from hY1]
    have hz : PcAt (((w3.setCell ⟨g, 0, none⟩ (.int .i64 0)).setCell ⟨g, 1, none⟩ (.int .i64 0)).setCell ⟨g, 2, none⟩ (.string { data := #[] })) g ⟨0, 0, { data := #[] }⟩ := block_setCell (i := 2) (u := .string { data := #[] }) (block_setCell (i := 1) (u := .int .i64 0) (block_setCell (i := 0) (u := .int .i64 0) hY1))
    have hbz := (((hb1.setCell (p := ⟨g, 0, none⟩) (Nat.le_refl _) (.int .i64 0)).setCell (p := ⟨g, 1, none⟩) (Nat.le_refl _) (.int .i64 0)).setCell (p := ⟨g, 2, none⟩) (Nat.le_refl _) (.string { data := #[] }))
    go_wp2
    generalize ((w3.setCell ⟨g, 0, none⟩ (.int .i64 0)).setCell ⟨g, 1, none⟩ (.int .i64 0)).setCell ⟨g, 2, none⟩ (.string { data := #[] }) = wz at hz hbz ⊢
    obtain ⟨d0, d1, d2, _⟩ := pcAt_S hz
    refine bodyPost_ret (v := .agg #[.int .i64 0, .int .i64 0, .string { data := #[] }]) (by simp [results, Try.results36, go_sem, d0, d1, d2]) rfl ⟨rfl, by rw [HG.out]; exact hbz⟩
end Go.Proofs.Ytjoikidnnhjogaa

/- notes.readName. -/
namespace Go.Proofs.Ytjoikidnnhjogaa
open Go.RowKit
set_option linter.unusedVariables false
def nmSz (st : ByteArray × Int) : Nat := getN (by_ (rawT (rd (rd st 4) 1).1 1))
def nmRd (st : ByteArray × Int) : NM := ⟨(getN (by_ (rawT st.1 4)) : Nat), rawT (rd (rd (rd st 4) 1) 1).1 (nmSz st : Nat)⟩
def nmNx (st : ByteArray × Int) : ByteArray × Int := rd (rd (rd (rd (rd st 4) 1) 1) (nmSz st : Nat)) (bhd (nmRd st).text.size : Nat)
def nmsRd : Nat → ByteArray × Int → List NM
  | 0, _ => []
  | n + 1, st => nmRd st :: nmsRd n (nmNx st)
theorem nmSz_le (st : ByteArray × Int) : nmSz st ≤ 255 := by
  have := getN_raw (rd (rd st 4) 1).1 1
  unfold nmSz
  have e : (256 : Nat) ^ 1 = 256 := by decide
  have e1 : ((1 : Nat) : Int) = 1 := rfl
  rw [e1] at this
  omega
theorem nmRd_le (st : ByteArray × Int) : (nmRd st).text.size ≤ 255 := Nat.le_trans (rawT_le _ (nmSz st)) (nmSz_le st)
theorem rd_le (st : ByteArray × Int) (n : Int) : (rd st n).1.size ≤ st.1.size := rawS_le _ _ _
theorem nmNx_le (st : ByteArray × Int) : (nmNx st).1.size ≤ st.1.size := by
  unfold nmNx
  generalize ((bhd (nmRd st).text.size : Nat) : Int) = n5
  generalize ((nmSz st : Nat) : Int) = n4
  have e1 := rd_le st 4
  generalize rd st 4 = s1 at e1 ⊢
  have e2 := rd_le s1 1
  generalize rd s1 1 = s2 at e2 ⊢
  have e3 := rd_le s2 1
  generalize rd s2 1 = s3 at e3 ⊢
  have e4 := rd_le s3 n4
  generalize rd s3 n4 = s4 at e4 ⊢
  have e5 := rd_le s4 n5
  omega
def RdNm (b : Nat) (st : ByteArray × Int) (w : World) (e : Ending) (w' : World) : Prop :=
  e = .returned (.agg #[.int .u32 (nmRd st).src, .string (nmRd st).text]) ∧ Ex b w w' ∧ InAt w' b (nmNx st).1 (nmNx st).2
set_option maxRecDepth 100000 in
set_option maxHeartbeats 3200000 in
theorem readName_any (b : Nat) (st : ByteArray × Int) (w : World) (hI : InAt w b st.1 st.2) (hs : st.1.size ≤ 1099511627776) :
    Calls Try.prog 115 #[.pointer (some ⟨b, 0, none⟩)] w (RdNm b st w) := by
  have htl := nmRd_le st
  obtain ⟨st1, h1⟩ : ∃ x, rd st 4 = x := ⟨_, rfl⟩
  obtain ⟨st2, h2⟩ : ∃ x, rd st1 1 = x := ⟨_, rfl⟩
  obtain ⟨st3, h3⟩ : ∃ x, rd st2 1 = x := ⟨_, rfl⟩
  have le : ∀ (st : ByteArray × Int) (n : Int), st.1.size ≤ 1099511627776 → (rd st n).1.size ≤ 1099511627776 := fun st n h => Nat.le_trans (rawS_le _ _ _) h
  have l1 := le _ 4 hs
  rw [h1] at l1
  have l2 := le _ 1 l1
  rw [h2] at l2
  have l3 := le _ 1 l2
  rw [h3] at l3
  have hz : nmSz st = getN (by_ (rawT st2.1 1)) := by unfold nmSz; rw [h1, h2]
  have hR : nmRd st = ⟨(getN (by_ (rawT st.1 4)) : Nat), rawT st3.1 (nmSz st : Nat)⟩ := by unfold nmRd; rw [h1, h2, h3]
  have hN : nmNx st = rd (rd st3 (nmSz st : Nat)) (bhd (nmRd st).text.size : Nat) := by unfold nmNx; rw [h1, h2, h3]
  have H1 := fun W h => u32_st b st W h (by omega)
  have H2 := fun W h => u8_st b st1 W h (by omega)
  have H3 := fun W h => u8_st b st2 W h (by omega)
  have H4 := fun W h => raw_st b st3 (nmSz st : Nat) W h (by omega)
  rw [h1] at H1
  rw [h2] at H2
  rw [h3, ← hz] at H3
  obtain ⟨st4, h4⟩ : ∃ x, rd st3 (nmSz st : Nat) = x := ⟨_, rfl⟩
  have l4 := le _ (nmSz st : Nat) l3
  rw [h4] at l4 H4 hN
  have H5 := fun W h => raw_st b st4 (bhd (nmRd st).text.size : Nat) W h (by omega)
  unfold RdNm
  rw [hN]
  generalize rd st4 (bhd (nmRd st).text.size : Nat) = st5 at H5 ⊢
  have hBH := fun W => behind_any (nmRd st).src (nmRd st).text W (by omega)
  generalize rawT st4.1 (bhd (nmRd st).text.size : Nat) = dropped at H5
  rw [hR] at hBH H5 htl ⊢
  simp only at hBH H5 htl ⊢
  clear hz hR hN h1 h2 h3 h4 le l1 l2 l3 l4 hs
  generalize rawT st3.1 (nmSz st : Nat) = t at H4 H5 hBH htl ⊢
  generalize ((nmSz st : Nat) : Int) = sz at H3 H4
  generalize ((getN (by_ (rawT st.1 4)) : Nat) : Int) = src at H1 hBH ⊢
  generalize ((getN (by_ (rawT st1.1 1)) : Nat) : Int) = itm at H2
  generalize ((bhd t.size : Nat) : Int) = bh at hBH H5
  have K1 := Lib.hid H1
  have K2 := Lib.hid H2
  have K3 := Lib.hid H3
  have K4 := Lib.hid H4
  have K5 := Lib.hid H5
  have KB := Lib.hid hBH
  clear H1 H2 H3 H4 H5 hBH
  have hX0 := atC_new 78 w #[.int .u32 0, .string { data := #[] }]
  have hI0 := hI.alloc (.cells #[.int .u32 0, .string { data := #[] }] 78)
  have hx0 := (Ex.refl b w).alloc (.cells #[.int .u32 0, .string { data := #[] }] 78)
  have hgb : w.heap.size ≠ b := by have := hI.lt; omega
  have hbw := hI.lt
  go_enter Try.func115, Try.ntmps115
  go_wp2_with fail
  generalize w.alloc (.cells #[.int .u32 0, .string { data := #[] }] 78) = w1 at hX0 hI0 hx0 ⊢
  generalize hgg : w.heap.size = g at hX0 hgb hbw ⊢
  have HG := Lib.hid hgg
  clear hgg hI
  refine (K1.out _ hI0).mono ?_
  rintro e w2 ⟨rfl, hI1, ho1⟩
  have hx1 := hx0.trans ho1.ex
  have hX1 := hX0.only hgb ho1
  clear hI0 hx0 hX0 ho1
  go_wp2_with fail
  refine (K2.out _ hI1).mono ?_
  rintro e w3 ⟨rfl, hI2, ho2⟩
  have hx2 := hx1.trans ho2.ex
  have hX2 := hX1.only hgb ho2
  clear hI1 hx1 hX1 ho2
  go_wp2_with fail
  refine (K3.out _ hI2).mono ?_
  rintro e w4 ⟨rfl, hI3, ho3⟩
  have hx3 := hx2.trans ho3.ex
  have hX3 := hX2.only hgb ho3
  clear hI2 hx2 hX2 ho3
  go_wp2_with fail
  refine (K4.out _ hI3).mono ?_
  rintro e w5 ⟨rfl, hI4, ho4⟩
  have hx4 := hx3.trans ho4.ex
  have hX4 := hX3.only hgb ho4
  clear hI3 hx3 hX3 ho4
  have hI5 := hI4.alloc (.cells #[.int .u32 src, .string t] 78)
  have hx5 := hx4.alloc (.cells #[.int .u32 src, .string t] 78)
  have hX5 := hX4.alloc (.cells #[.int .u32 src, .string t] 78)
  have hN5 := atC_new 78 w5 #[.int .u32 src, .string t]
  have hnb : w5.heap.size ≠ b := by have := hI4.lt; omega
  have hng : w5.heap.size ≠ g := by have := hX4.lt; omega
  go_upto_region 4 with fail
  generalize w5.alloc (.cells #[.int .u32 src, .string t] 78) = w6 at hI5 hx5 hX5 hN5 ⊢
  generalize w5.heap.size = gn at hN5 hnb hng ⊢
  clear hI4 hx4 hX4
  obtain ⟨n0, n1⟩ := hN5.cells2
  go_wp2_with fail
  refine (KB.out _).mono ?_
  rintro e w7 ⟨rfl, hk7⟩
  have hI7 := hI5.later hk7
  have hX7 := hX5.later hk7
  have hN7 := hN5.later hk7
  have hx7 : Ex b w w7 := hx5.trans ⟨hk7.os, hk7.tape, hk7.output, hk7.size, fun k hk _ => hk7.block k hk⟩
  clear hI5 hX5 hN5 hx5 hk7 n0 n1
  go_wp2_with fail
  refine (K5.out _ hI7).mono ?_
  rintro e w8 ⟨rfl, hI8, ho8⟩
  have hx8 := hx7.trans ho8.ex
  have hX8 := hX7.only hgb ho8
  have hN8 := hN7.only hnb ho8
  clear hI7 hX7 hN7 hx7 ho8 K1 K2 K3 K4 K5 KB
  obtain ⟨n0, n1⟩ := hN8.cells2
  obtain ⟨c0, c1⟩ := hX8.cells2
  have f0 := hX8.free 0
  have f1 := hX8.free 1
  have hXz : AtC 78 ((w8.setCell ⟨g, 0, none⟩ (.int .u32 src)).setCell ⟨g, 1, none⟩ (.string t)) g #[.int .u32 src, .string t] := by
    have h0 : AtC 78 (w8.setCell ⟨g, 0, none⟩ (.int .u32 src)) g #[.int .u32 src, .string { data := #[] }] := block_setCell hX8
    exact block_setCell h0
  have hoz : Only g w8 ((w8.setCell ⟨g, 0, none⟩ (.int .u32 src)).setCell ⟨g, 1, none⟩ (.string t)) := ((Only.refl g w8).setCell 0 _).setCell 1 _
  have hIz := hI8.only hgb.symm hoz
  have hxz := Only.exNew hx8 (by rw [HG.out]; exact Nat.le_refl _) hoz
  go_wp2_with fail
  generalize ((w8.setCell ⟨g, 0, none⟩ (.int .u32 src)).setCell ⟨g, 1, none⟩ (.string t)) = wz at hXz hoz hIz hxz ⊢
  obtain ⟨d0, d1⟩ := hXz.cells2
  refine bodyPost_ret (v := .agg #[.int .u32 src, .string t]) (by simp [results, Try.results115, go_sem, d0, d1]) rfl ⟨rfl, hxz, hIz⟩
end Go.Proofs.Ytjoikidnnhjogaa

/- notes.readNames. -/
namespace Go.Proofs.Ytjoikidnnhjogaa
open Go.RowKit
set_option linter.unusedVariables false
def nmsV : List NM → List Value
  | [] => []
  | p :: l => p.vals ++ nmsV l
theorem nmsV_append : ∀ l m, nmsV (l ++ m) = nmsV l ++ nmsV m
  | [], m => rfl
  | p :: l, m => by show p.vals ++ nmsV (l ++ m) = _; rw [nmsV_append l m, ← List.append_assoc]; rfl
theorem nmsV_len : ∀ l, (nmsV l).length = l.length * 2
  | [] => rfl
  | p :: l => by show (p.vals ++ nmsV l).length = _; rw [List.length_append, nmsV_len l]; show 2 + l.length * 2 = (l.length + 1) * 2; omega
theorem nmsV_at : ∀ (l : List NM) (i j : Nat) (v : Value), i < l.length → (l[i]?.getD zeroNM).vals[j]? = some v → (nmsV l)[i * 2 + j]? = some v
  | [], i, j, v, h, _ => by simp at h
  | p :: l, 0, j, v, _, hv => by
    have h3 : p.vals.length = 2 := rfl
    have hj : j < p.vals.length := (List.getElem?_eq_some_iff.1 hv).1
    show (p.vals ++ nmsV l)[0 * 2 + j]? = some v
    rw [Nat.zero_mul, Nat.zero_add, List.getElem?_append_left hj]
    exact hv
  | p :: l, i + 1, j, v, h, hv => by
    have h3 : p.vals.length = 2 := rfl
    show (p.vals ++ nmsV l)[(i + 1) * 2 + j]? = some v
    rw [List.getElem?_append_right (by omega), h3, show (i + 1) * 2 + j - 2 = i * 2 + j from by omega]
    exact nmsV_at l i j v (by simp at h; omega) (by simpa using hv)
theorem own_readsN {w : World} {B : Nat} {e : TypeId} {a : Option Addr} {n c : Nat} {l : List NM} (h : w.ownsRow B e 2 (.slice a n c) n (nmsV l)) : ReadsN w a l := by
  have hn : n = l.length := by have := h.1; rw [nmsV_len] at this; omega
  rcases h.2 with ⟨hv, hn0⟩ | ⟨g, cap, cur, hv, _, _, hl, hm, _, _⟩
  · exact .inl (List.length_eq_zero_iff.1 (by omega))
  · cases hv
    refine .inr ⟨g, 0, rfl, fun i hi j v hv' => ?_⟩
    have hj : j < 2 := (List.getElem?_eq_some_iff.1 hv').1
    rw [Nat.zero_add, h.cellAt (i * 2 + j) (by omega), nmsV_at l i j v hi hv']
theorem infoNm : (Try.prog.info? 78).map (fun i => (i.zero, i.size, i.bytes)) = some (some (.agg #[.int .u32 0, .string { data := #[] }]), 2, 24) := by kernel_rfl
theorem nmsRd_step : ∀ (n k : Nat) (st st' : ByteArray × Int) (xs : List NM), k < n → xs ++ nmsRd (n - k) st' = nmsRd n st → (xs ++ [nmRd st']) ++ nmsRd (n - (k + 1)) (nmNx st') = nmsRd n st := by
  intro n k st st' xs hk h
  rw [show n - k = (n - (k + 1)) + 1 from by omega] at h
  rw [List.append_assoc, ← h]
  rfl
theorem nmsRd_len : ∀ (n : Nat) (st : ByteArray × Int), (nmsRd n st).length = n
  | 0, _ => rfl
  | n + 1, st => by show (nmsRd n (nmNx st)).length + 1 = n + 1; rw [nmsRd_len n]
def rdNum (count : Int) : Nat := (min count 31).toNat
set_option maxRecDepth 100000 in
set_option maxHeartbeats 3200000 in
theorem readNames_any (p : PC) (w : World) (hs : p.body.size ≤ 1099511627776) :
    Calls Try.prog 86 #[.agg #[.int .i64 p.count, .int .i64 p.kind, .string p.body]] w fun e w' =>
      Below w.heap.size w w' ∧ ∃ a c, e = .returned (.slice a (nmsRd (rdNum p.count) (p.body, 0)).length c) ∧ ReadsN w' a (nmsRd (rdNum p.count) (p.body, 0)) := by
  obtain ⟨count, kind, s⟩ := p
  simp only at *
  obtain ⟨i0, hi, hz0, hz1, hz2⟩ := info_parts infoNm
  obtain ⟨R, hR⟩ : ∃ R, nmsRd (rdNum count) (s, 0) = R := ⟨_, rfl⟩
  have hRl : R.length = rdNum count := by rw [← hR]; exact nmsRd_len _ _
  have HST : Hid (([] : List NM) ++ nmsRd (rdNum count - 0) (s, 0) = R) := Lib.hid (by rw [← hR]; rfl)
  have HSP := Lib.hid (fun (k : Nat) (st' : ByteArray × Int) (xs : List NM) (hk : k < rdNum count) (h : xs ++ nmsRd (rdNum count - k) st' = R) => (by rw [← hR] at h ⊢; exact nmsRd_step (rdNum count) k (s, 0) st' xs hk h : (xs ++ [nmRd st']) ++ nmsRd (rdNum count - (k + 1)) (nmNx st') = R))
  rw [hR]
  clear hR
  have hN31 : rdNum count ≤ 31 := by unfold rdNum; omega
  have hNv : ∀ k : Nat, ((k : Int) < min count 31 ↔ k < rdNum count) := fun k => by unfold rdNum; omega
  have HNV := Lib.hid hNv
  generalize rdNum count = N at hRl HST HSP hN31 HNV
  clear hNv
  have hOf := Lib.hid (fun W => of_any s W)
  have hX1 := pc_new w ⟨count, kind, s⟩
  have hb1 : Below w.heap.size w (w.alloc (.cells #[.int .i64 count, .int .i64 kind, .string s] 33)) := (Below.refl _ _).alloc (Nat.le_refl _) _
  go_enter Try.func86, Try.ntmps86
  go_upto_region 1 with fail
  generalize w.alloc (.cells #[.int .i64 count, .int .i64 kind, .string s] 33) = w1 at hX1 hb1 ⊢
  obtain ⟨g, hg⟩ : ∃ g, w.heap.size = g := ⟨_, rfl⟩
  have HG := Lib.hid hg
  rw [hg] at hX1 hb1 ⊢
  clear hg
  obtain ⟨x0, x1, x2, _⟩ := pcAt_S hX1
  go_wp2_with fail
  refine (hOf.out _).mono ?_
  rintro e w' ⟨rfl, rfl⟩
  have hI2 := inAt_new s w1
  have hX2 := hX1.alloc (.cells #[.string s, .int .i64 0] 189)
  have hgl := hX1.lt
  have hb2 := hb1.alloc (by omega) (.cells #[.string s, .int .i64 0] 189)
  have hbn : g < w1.heap.size := hgl
  go_upto_region 3 with fail
  generalize w1.alloc (.cells #[.string s, .int .i64 0] 189) = w2 at hI2 hX2 hb2 ⊢
  generalize w1.heap.size = b at hI2 hbn ⊢
  clear hX1 hb1 hgl x0 x1 x2
  obtain ⟨x0, x1, x2, _⟩ := pcAt_S hX2
  have hbl := hI2.lt
  obtain ⟨M, hM⟩ : ∃ M : Int, min count 31 = M := ⟨_, rfl⟩
  rw [hM] at HNV
  go_wp2_with fail
  go_loopw [4, 11] (fun z i wr => ∃ (a : Option Addr) (k c : Nat) (xs : List NM) (st' : ByteArray × Int), z = .slice a k c ∧ i = .int .i64 k ∧ xs.length = k ∧ k ≤ N ∧ wr.ownsRow g 78 2 (.slice a k c) k (nmsV xs) ∧ InAt wr b st'.1 st'.2 ∧ Below g w wr ∧ st'.1.size ≤ 1099511627776 ∧ Hid (xs ++ nmsRd (N - k) st' = R)) (fun _ i _ => 31 - (intOf i).toNat)
  case atStart => exact ⟨none, 0, 0, [], (s, 0), rfl, rfl, rfl, by omega, World.ownsRow_nil _ _ _ _, hI2, hb2, hs, HST⟩
  case round =>
    obtain ⟨a, k, c, xs, st', rfl, rfl, hxl, hk, hv, hI3, hb3, hs3, HJ⟩ := hrel
    clear hI2 hb2 HST hX2 x0 x1 x2 hbl
    by_cases hlt : k < N
    · have hlt' : (k : Int) < M := (HNV.out k).2 hlt
      have HJ2 := Lib.hid (HSP.out k st' xs hlt HJ.out)
      have hRN := Lib.hid (fun W (h : InAt W b st'.1 st'.2) => readName_any b st' W h hs3)
      unfold RdNm at hRN
      have hs4 := Nat.le_trans (nmNx_le st') hs3
      have hAV : Hid (nmsV (xs ++ [nmRd st']) = nmsV xs ++ [.int .u32 (nmRd st').src, .string (nmRd st').text]) := Lib.hid (by rw [nmsV_append]; rfl)
      generalize nmRd st' = p at HJ2 hRN hAV
      generalize nmNx st' = st2 at HJ2 hRN hs4
      obtain ⟨src, t⟩ := p
      simp only at hRN hAV
      clear HSP HJ
      go_wp2_with fail
      refine (hRN.out _ hI3).mono ?_
      rintro e w5 ⟨rfl, hxx, hI5⟩
      have hv5 : w5.ownsRow g 78 2 (.slice a k c) k (nmsV xs) := own_ex hv hxx (row_neP hv hI3 (by intro cur q e; cases e))
      have hb5 : Below g w w5 := ⟨hxx.os.trans hb3.os, hxx.tape.trans hb3.tape, hxx.output.trans hb3.output, Nat.le_trans hb3.size hxx.size, fun i hi => (hxx.block i (by have := hI3.lt; omega) (by omega)).trans (hb3.block i hi)⟩
      have hg5 : g ≤ w5.heap.size := by have := hI5.lt; omega
      clear hv hI3 hb3 hxx
      go_wp2_with (at_builtin; refine append_rec (by rfl) (.tmp 13) (.tmp 16) 83 (by rfl) g 78 i0 (.agg #[.int .u32 0, .string { data := #[] }]) 2 24 Try.underlying83 hi hz0 hz1 hz2 rfl (by decide) _ k (nmsV xs) (by rfl) hv5 #[.int .u32 src, .string t] rfl (by rfl) ?d1 ?d2 ?d3 g (Nat.le_refl _) hg5 hb5 ?_)
      case d1 => exact ⟨rfl, rfl⟩
      case d2 => unfold maxLen; omega
      case d3 => omega
      intro v' w6 hown6 hb6 hg6
      obtain ⟨ad, cq, rfl⟩ : ∃ ad cq, v' = .slice ad (k + 1) cq := by
        rcases hown6.2 with ⟨_, h0⟩ | ⟨g', cap, cur, rfl, _⟩
        · omega
        · exact ⟨_, _, rfl⟩
      have hown7 : w6.ownsRow g 78 2 (.slice ad (k + 1) cq) (k + 1) (nmsV (xs ++ [⟨src, t⟩])) := by rw [hAV.out]; exact hown6
      have hI5a := hI5.alloc (.cells #[.int .u32 src, .string t] 78)
      have hI6 : InAt w6 b st2.1 st2.2 := by
        unfold InAt
        rw [hg6.block b hI5a.lt (row_neP (hv5.alloc (.cells #[.int .u32 src, .string t] 78)) hI5a (by intro cur q e; cases e))]
        exact hI5a
      clear hown6 hg6 hv5 hI5 hI5a hb5
      go_wp2
      go_roundw
      case rel => exact ⟨ad, k + 1, cq, xs ++ [⟨src, t⟩], st2, rfl, by go_num, by simp [hxl], by omega, hown7, hI6, hb6, hs4, HJ2⟩
      case measure => simp [intOf]; omega
    · obtain rfl : k = N := by omega
      have hnl : ¬ (k : Int) < M := fun h => hlt ((HNV.out k).1 h)
      have hE : xs = R := by have h := HJ.out; rw [Nat.sub_self] at h; simpa [nmsRd] using h
      clear HJ HSP
      go_wp2
      go_ret
      subst hE
      first | exact ⟨by rw [HG.out]; exact hb3, a, c, rfl, own_readsN hv⟩ | exact ⟨by rw [HG.out]; exact hb3, a, ⟨c, rfl⟩, own_readsN hv⟩ | exact ⟨by rw [HG.out]; exact hb3, a, c, by rw [hxl]; rfl, own_readsN hv⟩ | exact ⟨by rw [HG.out]; exact hb3, a, ⟨c, by rw [hxl]; rfl⟩, own_readsN hv⟩
end Go.Proofs.Ytjoikidnnhjogaa

/- notes: back at names, ToNames. -/
namespace Go.Proofs.Ytjoikidnnhjogaa
open Go.RowKit
set_option linter.unusedVariables false
def rdN (p : PC) : List NM := nmsRd (rdNum p.count) (p.body, 0)
def toNE (p : PC) : Int := if p.kind ≠ 202 then 5 else if nmsP (rdN p) = p then 0 else 1
def toN (p : PC) : List NM := if toNE p = 0 then rdN p else []
/-- What ToNames leaves. -/
def ToNd (p : PC) (w : World) (e : Ending) (w' : World) : Prop := Below w.heap.size w w' ∧ ∃ a c, e = .returned (.tuple #[.slice a (toN p).length c, .int .i64 (toNE p)]) ∧ ReadsN w' a (toN p)
theorem nmsRd_texts : ∀ (n : Nat) (st : ByteArray × Int) (k : Nat), k < (nmsRd n st).length → ((nmsRd n st)[k]?.getD zeroNM).text.size ≤ 255
  | 0, _, k, h => by simp [nmsRd] at h
  | n + 1, st, 0, _ => by show (nmRd st).text.size ≤ 255; exact nmRd_le st
  | n + 1, st, k + 1, h => by
    show ((nmsRd n (nmNx st))[k]?.getD zeroNM).text.size ≤ 255
    exact nmsRd_texts n (nmNx st) k (by simpa [nmsRd] using h)
set_option maxHeartbeats 1600000 in
theorem namesFn_any (l : List NM) (a : Option Addr) (c : Nat) (w : World) (hr : ReadsN w a l) (hl : l.length ≤ 1000) (ht : ∀ k, k < l.length → (l[k]?.getD zeroNM).text.size ≤ 255) :
    Calls Try.prog 87 #[.slice a l.length c] w fun e w' =>
      e = .returned (.agg #[.int .i64 (nmsP l).count, .int .i64 (nmsP l).kind, .string (nmsP l).body]) ∧ Below w.heap.size w w' := by
  have HP := Lib.hid (fun W (h : Below w.heap.size w W) => names_any l a l.length c W rfl (hr.later h) hl (fun k hk => Nat.le_trans (ht k hk) (by decide)))
  generalize nmsP l = q at HP ⊢
  obtain ⟨qc, qk, qs⟩ := q
  simp only at HP ⊢
  clear hr ht
  have hY1 := pc_new w zeroPC
  unfold zeroPC at hY1
  simp only at hY1
  have hb1 : Below w.heap.size w (w.alloc (.cells #[.int .i64 0, .int .i64 0, .string { data := #[] }] 33)) := (Below.refl _ _).alloc (Nat.le_refl _) _
  have hlt := hY1.lt
  go_enter Try.func87, Try.ntmps87
  go_wp2_with fail
  refine (HP.out _ hb1).mono ?_
  rintro e w3 ⟨rfl, hk3⟩
  have hY3 : PcAt w3 w.heap.size ⟨0, 0, { data := #[] }⟩ := hY1.later hk3
  have hb3 := hb1.trans (hk3.mono hb1.size)
  generalize hg : w.heap.size = g at hY3 hb3 ⊢
  have HG := Lib.hid hg
  clear hY1 hb1 hk3 hg hlt HP
  obtain ⟨y0, y1, y2, _⟩ := pcAt_S hY3
  have f0 : w3.frozen? ⟨g, 0, none⟩ = false := by simp [World.frozen?, show w3.heap[g]? = _ from hY3]
  have f1 : w3.frozen? ⟨g, 1, none⟩ = false := by simp [World.frozen?, show w3.heap[g]? = _ from hY3]
  have f2 : w3.frozen? ⟨g, 2, none⟩ = false := by simp [World.frozen?, show w3.heap[g]? = _ from hY3]
  have hz : PcAt (((w3.setCell ⟨g, 0, none⟩ (.int .i64 qc)).setCell ⟨g, 1, none⟩ (.int .i64 qk)).setCell ⟨g, 2, none⟩ (.string qs)) g ⟨qc, qk, qs⟩ := block_setCell (i := 2) (u := .string qs) (block_setCell (i := 1) (u := .int .i64 qk) (block_setCell (i := 0) (u := .int .i64 qc) hY3))
  have hbz := (((hb3.setCell (p := ⟨g, 0, none⟩) (Nat.le_refl _) (.int .i64 qc)).setCell (p := ⟨g, 1, none⟩) (Nat.le_refl _) (.int .i64 qk)).setCell (p := ⟨g, 2, none⟩) (Nat.le_refl _) (.string qs))
  go_wp2_with fail
  generalize ((w3.setCell ⟨g, 0, none⟩ (.int .i64 qc)).setCell ⟨g, 1, none⟩ (.int .i64 qk)).setCell ⟨g, 2, none⟩ (.string qs) = wz at hz hbz ⊢
  obtain ⟨d0, d1, d2, _⟩ := pcAt_S hz
  refine bodyPost_ret (v := .agg #[.int .i64 qc, .int .i64 qk, .string qs]) (by simp [results, Try.results87, go_sem, d0, d1, d2]) rfl ⟨rfl, by rw [HG.out]; exact hbz⟩
set_option maxRecDepth 100000 in
set_option maxHeartbeats 3200000 in
theorem backNames_any (p : PC) (w : World) (hs : p.body.size ≤ 1099511627776) :
    Calls Try.prog 85 #[.agg #[.int .i64 p.count, .int .i64 p.kind, .string p.body], .int .i64 202, .func (.func 86) #[] #[], .func (.func 87) #[] #[]] w (ToNd p w) := by
  unfold ToNd
  have hRd := fun W => readNames_any p W hs
  have hlen : (rdN p).length ≤ 1000 := by unfold rdN; rw [nmsRd_len]; unfold rdNum; omega
  have htx := nmsRd_texts (rdNum p.count) (p.body, 0)
  have hPi := fun (W : World) (a : Option Addr) (c : Nat) (h : ReadsN W a (rdN p)) => namesFn_any (rdN p) a c W h hlen htx
  have hE : toNE p = if p.kind ≠ 202 then 5 else if nmsP (rdN p) = p then 0 else 1 := rfl
  have hT : toN p = if toNE p = 0 then rdN p else [] := rfl
  change ∀ W : World, Calls Try.prog 86 #[.agg #[.int .i64 p.count, .int .i64 p.kind, .string p.body]] W fun e w' => Below W.heap.size W w' ∧ ∃ a c, e = .returned (.slice a (rdN p).length c) ∧ ReadsN w' a (rdN p) at hRd
  generalize toN p = tA at hT ⊢
  generalize toNE p = tE at hE hT ⊢
  generalize nmsP (rdN p) = q at hPi hE
  generalize rdN p = nt at hPi hRd hT
  clear hlen htx
  obtain ⟨count, kind, s⟩ := p
  obtain ⟨qc, qk, qs⟩ := q
  simp only at *
  have HRd := Lib.hid hRd
  have HPi := Lib.hid hPi
  clear hRd hPi
  have hX1 := pc_new w ⟨count, kind, s⟩
  have hb1 : Below w.heap.size w (w.alloc (.cells #[.int .i64 count, .int .i64 kind, .string s] 33)) := (Below.refl _ _).alloc (Nat.le_refl _) _
  go_enter Try.func85, Try.ntmps85
  go_upto_region 1 with fail
  generalize w.alloc (.cells #[.int .i64 count, .int .i64 kind, .string s] 33) = w2 at hX1 hb1 ⊢
  generalize hg : w.heap.size = g at hX1 hb1 ⊢
  have HG := Lib.hid hg
  clear hg
  obtain ⟨x0, x1, x2, _⟩ := pcAt_S hX1
  have hg2 : g < w2.heap.size := hX1.lt
  by_cases hk : kind = 202
  · subst hk
    rw [if_neg (by simp)] at hE
    go_wp2_with fail
    refine (HRd.out _).mono ?_
    rintro e w4 ⟨hb4, a4, c4, rfl, hr4⟩
    have hX4 : PcAt w4 g ⟨count, 202, s⟩ := hX1.later hb4
    have hbb4 := hb1.trans (hb4.mono (by omega))
    clear hX1 hb1 hb4 HRd x0 x1 x2 hg2
    obtain ⟨x0, x1, x2, _⟩ := pcAt_S hX4
    have hg4 : g ≤ w4.heap.size := by have := hX4.lt; omega
    have hd4 : Below w4.heap.size w4 w4.drew := by go_grown
    have HR4 := Lib.hid (fun W (h : Below w4.heap.size w4 W) => hr4.later h)
    clear hr4
    go_upto_region 5 with fail
    by_cases hq : (⟨qc, qk, qs⟩ : PC) = ⟨count, 202, s⟩
    · rw [if_pos hq] at hE
      cases hq
      subst hE
      rw [if_pos rfl] at hT
      subst hT
      go_cut [24] (fun z wx => z = .bool false ∧ Below w4.heap.size w4 wx)
      case first =>
        go_region_law (first | (go_simp; refine (HPi.out _ _ _ (HR4.out _ hd4)).mono ?_; rintro e w6 ⟨rfl, hb6⟩; have hh6 := hd4.trans hb6; obtain ⟨_, _, _, _⟩ := pcAt_S (hX4.later hh6)))
        all_goals
          go_wp2_with fail
          go_meet
          exact ⟨by simp, hh6⟩
      case rest =>
      obtain ⟨rfl, hb6⟩ := hcut
      have hr6 := HR4.out _ hb6
      have hbb6 := hbb4.trans (hb6.mono hg4)
      go_wp2_with fail
      go_ret2
      first | exact ⟨by rw [HG.out]; exact hbb6, a4, c4, rfl, hr6⟩ | exact ⟨by rw [HG.out]; exact hbb6, a4, ⟨c4, rfl⟩, hr6⟩
    · rw [if_neg hq] at hE
      subst hE
      rw [if_neg (by decide)] at hT
      subst hT
      have h3 : (¬ qc = count) ∨ (qc = count ∧ ¬ qk = 202) ∨ (qc = count ∧ qk = 202 ∧ ¬ qs.toList = s.toList) := by
        by_cases c1 : qc = count
        · by_cases c2 : qk = 202
          · refine .inr (.inr ⟨c1, c2, fun c3 => hq ?_⟩)
            have c4 : qs = s := by
              have := texts_eq qs s
              rw [c3] at this
              simp at this
              exact this
            rw [c1, c2, c4]
          · exact .inr (.inl ⟨c1, c2⟩)
        · exact .inl c1
      clear hq
      go_cut [24] (fun z wx => z = .bool true ∧ Below w4.heap.size w4 wx)
      case first =>
        rcases h3 with c1 | ⟨rfl, c2⟩ | ⟨rfl, rfl, c3⟩
        all_goals
          go_region_law (first | (go_simp; refine (HPi.out _ _ _ (HR4.out _ hd4)).mono ?_; rintro e w6 ⟨rfl, hb6⟩; have hh6 := hd4.trans hb6; obtain ⟨_, _, _, _⟩ := pcAt_S (hX4.later hh6)))
          all_goals
            go_wp2_with fail
            go_meet
            first | exact ⟨rfl, hh6⟩ | exact ⟨by simp [*], hh6⟩
      case rest =>
      obtain ⟨rfl, hb6⟩ := hcut
      have hbb6 := hbb4.trans (hb6.mono hg4)
      go_wp2_with fail
      go_ret2
      first | exact ⟨by rw [HG.out]; exact hbb6, none, 0, rfl, .inl rfl⟩ | exact ⟨by rw [HG.out]; exact hbb6, none, ⟨0, rfl⟩, .inl rfl⟩
  · have hk' : (kind != 202) = true := by simpa using hk
    rw [if_pos hk] at hE
    subst hE
    rw [if_neg (by decide)] at hT
    subst hT
    clear hk
    go_wp2_with fail
    go_ret2
    first | exact ⟨by rw [HG.out]; exact hb1, none, 0, rfl, .inl rfl⟩ | exact ⟨by rw [HG.out]; exact hb1, none, ⟨0, rfl⟩, .inl rfl⟩
theorem toNames_any (p : PC) (w : World) (hs : p.body.size ≤ 1099511627776) :
    Calls Try.prog 38 #[.agg #[.int .i64 p.count, .int .i64 p.kind, .string p.body]] w (ToNd p w) := by
  have hB := fun W => backNames_any p W hs
  unfold ToNd at hB ⊢
  generalize toN p = tA at hB ⊢
  generalize toNE p = tE at hB ⊢
  obtain ⟨count, kind, s⟩ := p
  simp only at *
  have HB := Lib.hid hB
  clear hB
  have hX1 := pc_new w ⟨count, kind, s⟩
  have hb1 : Below w.heap.size w (w.alloc (.cells #[.int .i64 count, .int .i64 kind, .string s] 33)) := (Below.refl _ _).alloc (Nat.le_refl _) _
  obtain ⟨x0, x1, x2, _⟩ := pcAt_S hX1
  have hle := hb1.size
  go_enter Try.func38, Try.ntmps38
  go_wp2_with fail
  refine (HB.out _).mono ?_
  rintro e w3 ⟨hb3, a3, c3, rfl, hr3⟩
  have hbb3 := hb1.trans (hb3.mono hle)
  go_wp2_with fail
  go_ret2
  first | exact ⟨hbb3, a3, c3, rfl, hr3⟩ | exact ⟨hbb3, a3, ⟨c3, rfl⟩, hr3⟩
end Go.Proofs.Ytjoikidnnhjogaa

/- Names come back from their piece: plain facts. -/
namespace Go.Proofs.Ytjoikidnnhjogaa
open Go.RowKit
set_option linter.unusedVariables false
theorem nmRd_ahead (n : NM) (r : List UInt8) (hm : nmMay n) (h0 : 0 ≤ n.src) (h1 : n.src ≤ 4294967295) : nmRd (ofL (nmL n ++ r), 0) = n ∧ nmNx (ofL (nmL n ++ r), 0) = (ofL r, 0) := by
  obtain ⟨src, t⟩ := n
  obtain ⟨hz, hs⟩ := hm
  simp only at hz hs h0 h1
  have e : nmL ⟨src, t⟩ ++ r = be src 4 ++ (be 1 1 ++ (be ((t.size : Nat) : Int) 1 ++ (by_ t ++ (List.replicate (bhd t.size) 0 ++ r)))) := by unfold nmL; simp
  rw [e]
  have r1 : rd (ofL (be src 4 ++ (be 1 1 ++ (be ((t.size : Nat) : Int) 1 ++ (by_ t ++ (List.replicate (bhd t.size) 0 ++ r))))), 0) 4 = (ofL (be 1 1 ++ (be ((t.size : Nat) : Int) 1 ++ (by_ t ++ (List.replicate (bhd t.size) 0 ++ r)))), 0) := rd_ahead (be src 4) _ 4 (by rw [be_len]; rfl)
  have r2 : rd (ofL (be 1 1 ++ (be ((t.size : Nat) : Int) 1 ++ (by_ t ++ (List.replicate (bhd t.size) 0 ++ r)))), 0) 1 = (ofL (be ((t.size : Nat) : Int) 1 ++ (by_ t ++ (List.replicate (bhd t.size) 0 ++ r))), 0) := rd_ahead (be 1 1) _ 1 (by rw [be_len]; rfl)
  have r3 : rd (ofL (be ((t.size : Nat) : Int) 1 ++ (by_ t ++ (List.replicate (bhd t.size) 0 ++ r))), 0) 1 = (ofL (by_ t ++ (List.replicate (bhd t.size) 0 ++ r)), 0) := rd_ahead (be ((t.size : Nat) : Int) 1) _ 1 (by rw [be_len]; rfl)
  have r4 : rd (ofL (by_ t ++ (List.replicate (bhd t.size) 0 ++ r)), 0) (t.size : Nat) = (ofL (List.replicate (bhd t.size) 0 ++ r), 0) := rd_ahead (by_ t) _ _ (by rw [by_len])
  have r5 : rd (ofL (List.replicate (bhd t.size) 0 ++ r), 0) (bhd t.size : Nat) = (ofL r, 0) := rd_ahead (List.replicate (bhd t.size) 0) _ _ (by simp)
  have g1 : ((getN (be src 4) : Nat) : Int) = src := by
    have := getN_be4 src
    omega
  have g3 : getN (be ((t.size : Nat) : Int) 1) = t.size := by
    have := getN_be1 ((t.size : Nat) : Int)
    omega
  have hsz : nmSz (ofL (be src 4 ++ (be 1 1 ++ (be ((t.size : Nat) : Int) 1 ++ (by_ t ++ (List.replicate (bhd t.size) 0 ++ r))))), 0) = t.size := by
    unfold nmSz
    rw [r1, r2]
    show getN (by_ (rawT (ofL _) 1)) = t.size
    rw [rawT_ahead (be ((t.size : Nat) : Int) 1) _ 1 (by rw [be_len]; rfl), by_ofL, g3]
  have hR : nmRd (ofL (be src 4 ++ (be 1 1 ++ (be ((t.size : Nat) : Int) 1 ++ (by_ t ++ (List.replicate (bhd t.size) 0 ++ r))))), 0) = ⟨src, t⟩ := by
    unfold nmRd
    rw [hsz, r1, r2, r3]
    show (⟨((getN (by_ (rawT (ofL _) 4)) : Nat) : Int), rawT (ofL _) (t.size : Nat)⟩ : NM) = ⟨src, t⟩
    rw [rawT_ahead (be src 4) _ 4 (by rw [be_len]; rfl), by_ofL, g1, rawT_ahead (by_ t) _ _ (by rw [by_len]), ofL_by]
  refine ⟨hR, ?_⟩
  unfold nmNx
  rw [hR, hsz, r1, r2, r3, r4]
  exact r5
theorem nmsRd_ahead : ∀ (l : List NM), (∀ n ∈ l, nmMay n ∧ 0 ≤ n.src ∧ n.src ≤ 4294967295) → nmsRd l.length (ofL (nmsL l), 0) = l
  | [], _ => rfl
  | n :: l, h => by
    obtain ⟨h1, h2⟩ := nmRd_ahead n (nmsL l) (h n (by simp)).1 (h n (by simp)).2.1 (h n (by simp)).2.2
    show nmRd (ofL (nmL n ++ nmsL l), 0) :: nmsRd l.length (nmNx (ofL (nmL n ++ nmsL l), 0)) = n :: l
    rw [h1, h2, nmsRd_ahead l (fun m hm => h m (by simp [hm]))]
theorem nms_back (l : List NM) (h : nmsMay l) (hs : ∀ n ∈ l, 0 ≤ n.src ∧ n.src ≤ 4294967295) : toNE (nmsP l) = 0 ∧ toN (nmsP l) = l := by
  have e : nmsP l = ⟨(l.length : Nat), 202, ofL (nmsL l)⟩ := by unfold nmsP; rw [if_pos h]
  have hm : ∀ n ∈ l, nmMay n := fun n hn => by
    obtain ⟨k, hk, rfl⟩ := List.getElem_of_mem hn
    have := h.2 k hk
    simpa [hk] using this
  have hr : rdN (nmsP l) = l := by
    rw [e]
    unfold rdN rdNum
    simp only
    have hl := h.1
    rw [show (min ((l.length : Nat) : Int) 31).toNat = l.length from by omega]
    exact nmsRd_ahead l (fun n hn => ⟨hm n hn, hs n hn⟩)
  have hE : toNE (nmsP l) = 0 := by
    unfold toNE
    rw [hr, if_neg (by rw [e]; simp), if_pos rfl]
  exact ⟨hE, by unfold toN; rw [if_pos hE, hr]⟩
end Go.Proofs.Ytjoikidnnhjogaa
