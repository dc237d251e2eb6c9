/- piece.Pack. -/
import Derived.Test.YtagimjaojpdfiaaPcC
import Derived.Test.YtagimjaojpdfiaaRtpW
import Derived.Deep.RegionHeld3
namespace Go.Proofs.Ytagimjaojpdfiaa
open Go.RowKit
set_option linter.unusedVariables false
def allMay (l : List PC) : Prop := ∀ p ∈ l, pcMay p
instance allMay_dec (l : List PC) : Decidable (allMay l) := by unfold allMay; infer_instance
/-- The bytes of pieces; none if one may not be. -/
def pcsS (l : List PC) : ByteArray := if allMay l then ofL (pcsL l) else { data := #[] }
theorem pc_mem (l : List PC) (k : Nat) (h : k < l.length) : l[k]?.getD zeroPC ∈ l := by
  rw [List.getElem?_eq_getElem h]
  exact List.getElem_mem h
theorem take_may (l : List PC) (k : Nat) (h : k < l.length) (h1 : allMay (l.take k)) (h2 : pcMay (l[k]?.getD zeroPC)) : allMay (l.take (k + 1)) := by
  intro p hp
  rw [List.take_succ_eq_append_getElem h] at hp
  rcases List.mem_append.1 hp with hp | hp
  · exact h1 p hp
  · rw [List.mem_singleton] at hp
    rw [List.getElem?_eq_getElem h] at h2
    subst hp; exact h2
theorem pcsS_bad (l : List PC) (p : PC) (hp : p ∈ l) (h : ¬ pcMay p) : pcsS l = { data := #[] } := by
  unfold pcsS
  rw [if_neg (fun ha => h (ha p hp))]
theorem pcsS_good (l : List PC) (h : allMay l) : pcsS l = ofL (pcsL l) := by unfold pcsS; rw [if_pos h]
theorem pcsL_take_len (l : List PC) (k n : Nat) (h : ∀ p ∈ l, p.body.size ≤ n) : (pcsL (l.take k)).length ≤ l.length * (4 + n) := by
  have h1 := pcsL_len_le (l.take k) n (fun p hp => h p (List.mem_of_mem_take hp))
  have h2 : (l.take k).length ≤ l.length := by rw [List.length_take]; omega
  exact Nat.le_trans h1 (Nat.mul_le_mul_right _ h2)
/-- A piece in memory. -/
def PcAt (W : World) (g : Nat) (p : PC) : Prop := W.heap[g]? = some (.cells #[.int .i64 p.count, .int .i64 p.kind, .string p.body] 28 (0, 0))
theorem PcAt.drew {W : World} {g : Nat} {p : PC} (h : PcAt W g p) : PcAt W.drew g p := h
theorem PcAt.alloc {W : World} {g : Nat} {p : PC} (h : PcAt W g p) (o : Obj) : PcAt (W.alloc o) g p := heap_at_old _ _ _ _ h
theorem PcAt.others {W w' : World} {g b : Nat} {p : PC} (h : PcAt W g p) (hg : g ≠ b) (ho : Others b W w') : PcAt w' g p := ho g _ h hg (by intro cur p e; cases e)
theorem PcAt.later {W w' : World} {g : Nat} {p : PC} (h : PcAt W g p) (hb : Below W.heap.size W w') : PcAt w' g p := by unfold PcAt; rw [hb.block g (lt_of_block h)]; exact h
theorem PcAt.lt {W : World} {g : Nat} {p : PC} (h : PcAt W g p) : g < W.heap.size := lt_of_block h
theorem pcAt_S {W : World} {g : Nat} {p : PC} (h : PcAt W g p) : W.cell? ⟨g, 0, none⟩ = some (.int .i64 p.count) ∧ W.cell? ⟨g, 1, none⟩ = some (.int .i64 p.kind) ∧ W.cell? ⟨g, 2, none⟩ = some (.string p.body) ∧ PcAt W g p := by
  have f := fun i => cell_of_row W g i _ _ (0, 0) h
  exact ⟨by simpa using f 0, by simpa using f 1, by simpa using f 2, h⟩
theorem pc_new (W : World) (p : PC) : PcAt (W.alloc (.cells #[.int .i64 p.count, .int .i64 p.kind, .string p.body] 28)) W.heap.size p := heap_alloc_new _ _
set_option maxRecDepth 100000 in
set_option maxHeartbeats 3200000 in
theorem pcPack_any (l : List PC) (a : Option Addr) (c : Nat) (w : World) (hr : ReadsP w a l) (hl : l.length ≤ 1000) (hz : ∀ p ∈ l, p.body.size ≤ 300000) :
    Calls Try.prog 39 #[.slice a l.length c] w fun e w' => e = .returned (.string (pcsS l)) ∧ Below w.heap.size w w' := by
  have hO := out_new w w.heap.size (Nat.le_refl _)
  have hb0 : Below w.heap.size w (w.alloc (.cells #[.slice none 0 0] 137)) := (Below.refl _ _).alloc (Nat.le_refl _) _
  have hR : ∀ W, Below w.heap.size w W → ReadsP W a l := fun W h => hr.later h
  have HR := Lib.hid hR
  have HZ := Lib.hid hz
  clear hR hr hz
  go_enter Try.func39, Try.ntmps39
  go_wp2
  generalize w.alloc (.cells #[.slice none 0 0] 137) = w1 at hO hb0 ⊢
  generalize hbe : w.heap.size = b at hO hb0 HR ⊢
  have HBE := Lib.hid hbe
  clear hbe
  go_loopw [8] (fun i wr => ∃ k : Nat, k ≤ l.length ∧ i = .int .i64 k ∧ ∃ v, OutAt wr b b v (pcsL (l.take k)) ∧ Below b w wr ∧ Hid (allMay (l.take k))) (fun i _ => l.length - (intOf i).toNat)
  case atStart => exact ⟨0, Nat.zero_le _, rfl, _, hO, hb0, Lib.hid (fun p hp => by simp at hp)⟩
  case round =>
    obtain ⟨k, hk, rfl, v1, hO1, hb1, HM⟩ := hrel
    clear hO hb0
    by_cases hlt : k < l.length
    · obtain ⟨ab, off, rfl, hc0, hc1, hc2⟩ := (HR.out _ hb1).at hlt
      have HT := Lib.hid (pcsL_take l k hlt)
      have hmem := pc_mem l k hlt
      have hsz := HZ.out _ hmem
      have HMM := Lib.hid (take_may l k hlt HM.out)
      have HB := Lib.hid (fun h => pcsS_bad l _ hmem h)
      have hlen := pcsL_take_len l k 300000 HZ.out
      have hlen2 : (pcsL (l.take k)).length ≤ 400000000 := by
        have : l.length * (4 + 300000) ≤ 1000 * (4 + 300000) := Nat.mul_le_mul_right _ hl
        omega
      clear hlen hmem
      generalize l[k]?.getD zeroPC = p at hc0 hc1 hc2 HT hsz HMM HB
      generalize pcsL (l.take k) = L1 at HT hO1 hlen2
      have hP := pc_new wr p
      have hOa := hO1.alloc (.cells #[.int .i64 p.count, .int .i64 p.kind, .string p.body] 28)
      have hba := hb1.alloc (by have := hO1.lt; omega) (.cells #[.int .i64 p.count, .int .i64 p.kind, .string p.body] 28)
      have hgb : wr.heap.size ≠ b := by have := hO1.lt; omega
      by_cases hmp : pcMay p
      · have HCk := Lib.hid (fun W => pcCheck_any p W (by omega) 0 (.inl ⟨rfl, hmp⟩))
        obtain ⟨h1, h2, h3, h4, h5, h6⟩ := id hmp
        have HMp := Lib.hid hmp
        clear hmp HB
        obtain ⟨count, kind, body⟩ := p
        simp only at *
        go_wp2_with fail
        generalize wr.alloc (.cells #[.int .i64 count, .int .i64 kind, .string body] 28) = w2 at hP hOa hba ⊢
        generalize wr.heap.size = g at hP hgb ⊢
        clear hO1 hb1 hc0 hc1 hc2
        refine (HCk.out _).mono ?_
        rintro e w3 ⟨rfl, hb3⟩
        have hP3 := hP.later hb3
        have hO3 := hOa.later hb3
        have hbb3 := hba.trans (hb3.mono (by have := hOa.lt; omega))
        clear hP hOa hba hb3
        obtain ⟨c0, c1, c2, _⟩ := pcAt_S hP3
        have hg3 := hP3.lt
        have hbw3 := hO3.lt
        have hw1 : IntKind.i64.wrap (128 + count) = 128 + count := IntWalk.i64_in _ ⟨by omega, by omega⟩
        have hw2 : IntKind.i64.wrap kind = kind := IntWalk.i64_in _ ⟨by omega, by omega⟩
        have hq : (body.size : Int) / 4 = ((body.size / 4 : Nat) : Int) := by omega
        have hq2 : body.size / 4 ≤ 65535 := by omega
        have HL : Hid (L1 ++ bes [128 + count, kind] 1 ++ bes [((body.size / 4 : Nat) : Int)] 2 ++ cat [body] = pcsL (l.take (k + 1))) := by
          show _ = _
          rw [HT.out, bes_two, bes_one, cat_one]
          unfold pcL
          simp only [List.append_assoc]
        generalize body.size / 4 = q at hq hq2 HL
        have hqw : IntKind.i64.wrap (q : Int) = (q : Int) := IntWalk.i64_in _ ⟨by omega, by omega⟩
        have hcount : (pcsL (l.take k)).length ≤ 400000000 ∨ True := .inr trivial
        clear hcount
        go_wp2_with fail
        go_region_held3 (fun W => W.cell? ⟨g, 0, none⟩ = some (.int .i64 count) ∧ W.cell? ⟨g, 1, none⟩ = some (.int .i64 kind) ∧ W.cell? ⟨g, 2, none⟩ = some (.string body) ∧ PcAt W g ⟨count, kind, body⟩) (first | (go_keep; done) | exact pcAt_S (PcAt.drew (by go_split_ands; assumption)) | exact pcAt_S (PcAt.alloc (by go_split_ands; assumption) _) | exact pcAt_S (PcAt.others (by go_split_ands; assumption) hgb (by assumption)) | (go_split_ands; assumption)) (first | (go_at_call 66; refine (u8_g b b v1 L1 [128 + count, kind] #[.int .i64 (128 + count), .int .i64 kind] 2 _ w3 _ hO3 ?x1 ?x2 ?x3 rfl rfl ?x4 ?x5).mono ?_; (case x1 => go_grown); (case x2 => (repeat (first | exact heap_at_new _ _ _ (by first | rfl | (simp; done)) | refine heap_at_old _ _ _ _ ?_))); (case x3 => first | omega | (simp; done) | (simp; omega)); (case x4 => simp; omega); (case x5 => simp; done); rintro e w4 ⟨rfl, v4, hO4, h4, ho4⟩; have q4 := hO4.lt; have hb4 : Below b w w4 := Below.trans (by go_grown) h4) | (go_at_call 55; refine (u16_g b b v4 (L1 ++ bes [128 + count, kind] 1) [(q : Int)] #[.int .i64 (q : Int)] 1 _ w4 _ hO4 ?x1 ?x2 ?x3 rfl rfl ?x4 ?x5).mono ?_; (case x1 => go_grown); (case x2 => (repeat (first | exact heap_at_new _ _ _ (by first | rfl | (simp; done)) | refine heap_at_old _ _ _ _ ?_ | (refine ho4 _ _ ?_ (by first | omega | (simp; omega)) (by intro cur p e; cases e))))); (case x3 => have := hO4.lt; first | omega | (simp; done) | (simp; omega)); (case x4 => rw [List.length_append]; simp [bes_len]; omega); (case x5 => simp; done); rintro e w5 ⟨rfl, v5, hO5, h5, ho5⟩; have q5 := hO5.lt; have hb5 : Below b w w5 := Below.trans (by repeat (first | exact hb4 | refine Below.drew ?_ | refine Below.alloc ?_ (by have := hO4.lt; first | omega | (simp; omega)) _)) h5) | (go_at_call 67; refine (outRaw_g b b v5 (L1 ++ bes [128 + count, kind] 1 ++ bes [(q : Int)] 2) [body] #[.string body] 1 _ w5 _ hO5 ?x1 ?x2 ?x3 rfl rfl ?x4 ?x5).mono ?_; (case x1 => go_grown); (case x2 => (repeat (first | exact heap_at_new _ _ _ (by first | rfl | (simp; done)) | refine heap_at_old _ _ _ _ ?_ | (refine ho5 _ _ ?_ (by first | omega | (simp; omega)) (by intro cur p e; cases e)) | (refine ho4 _ _ ?_ (by first | omega | (simp; omega)) (by intro cur p e; cases e))))); (case x3 => have := hO5.lt; first | omega | (simp; done) | (simp; omega)); (case x4 => rw [cat_one, by_len, List.length_append, List.length_append]; simp [bes_len]; omega); (case x5 => simp; done); rintro e w6 ⟨rfl, v6, hO6, h6, ho6⟩; have hb6 : Below b w w6 := Below.trans (by repeat (first | exact hb5 | refine Below.drew ?_ | refine Below.alloc ?_ (by have := hO5.lt; first | omega | (simp; omega)) _)) h6))
        all_goals
          clear hP3 hO3 hbb3 c0 c1 c2 hO4 h4 ho4 hb4 hO5 h5 ho5 hb5 h6 ho6 HCk hw1 hw2 hq
          rw [HL.out] at hO6
          have HN := Lib.hid (HMM.out HMp.out)
          go_wp2
          go_roundw
          case rel => exact ⟨k + 1, by omega, by go_num, v6, hO6, hb6, HN⟩
          case measure => simp [intOf]; omega
      · have HCk := Lib.hid (fun W => pcCheck_any p W (by omega) 6 (.inr ⟨rfl, hmp⟩))
        have HB2 := Lib.hid (HB.out hmp)
        clear hmp HB HMM HT
        obtain ⟨count, kind, body⟩ := p
        simp only at *
        go_wp2_with fail
        have hbl : b ≤ (wr.alloc (.cells #[.int .i64 count, .int .i64 kind, .string body] 28)).heap.size := by have := hO1.lt; simp; omega
        clear hP hOa hO1 hb1 hc0 hc1 hc2
        refine (HCk.out _).mono ?_
        rintro e w3 ⟨rfl, hb3⟩
        have hbb3 := hba.trans (hb3.mono hbl)
        go_wp2
        go_ret
        exact ⟨ret_str HB2.out.symm, by rw [HBE.out]; exact hbb3⟩
    · obtain rfl : k = l.length := by omega
      rw [List.take_length] at hO1 HM
      have HS := Lib.hid (pcsS_good l HM.out)
      go_wp2_with ((go_at_call 56; refine (bytes_any _ _ _ _ _ hO1).mono ?_; rintro e w' ⟨rfl, rfl⟩))
      go_ret
      exact ⟨ret_str HS.out.symm, by rw [HBE.out]; exact hb1⟩
end Go.Proofs.Ytagimjaojpdfiaa
