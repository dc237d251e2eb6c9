/- PenReads: the walk. -/
import Derived.Test.YtpmcbnnbhjolmaaPenWritesW
import Derived.Deep.DeepCutAuto
import Derived.Deep.CutBlock
namespace Go.Proofs.Ytpmcbnnbhjolmaa
open Go.RowKit
set_option linter.unusedVariables false
/-- The document's In, at block b. -/
def XAt (w : World) (b : Nat) (s : ByteArray) (er : Int) : Prop := w.heap[b]? = some (.cells #[.string s, .int .i64 er] 41 (0, 0))
theorem xAt_new (W : World) (n : Nat) (s : ByteArray) (hn : n = W.heap.size) : XAt (W.alloc (.cells #[.string s, .int .i64 0] 41)) n s 0 := by subst hn; exact heap_alloc_new W _
theorem XAt.lt {w : World} {b : Nat} {s : ByteArray} {er : Int} (h : XAt w b s er) : b < w.heap.size := lt_of_block h
theorem XAt.later {w w' : World} {b : Nat} {s : ByteArray} {er : Int} (h : XAt w b s er) (hb : Below w.heap.size w w') : XAt w' b s er := by
  unfold XAt; rw [hb.block b h.lt]; exact h
theorem XAt.only {w w' : World} {b b' : Nat} {s : ByteArray} {er : Int} (h : XAt w b s er) (hne : b ≠ b') (ho : Only b' w w') : XAt w' b s er := by
  unfold XAt; rw [ho.block b hne]; exact h
theorem XAt.cell0 {w : World} {b : Nat} {s : ByteArray} {er : Int} (h : XAt w b s er) : w.cell? ⟨b, 0, none⟩ = some (.string s) := by
  have := cell_of_row w b 0 _ _ (0, 0) h; simpa using this
theorem XAt.cell1 {w : World} {b : Nat} {s : ByteArray} {er : Int} (h : XAt w b s er) : w.cell? ⟨b, 1, none⟩ = some (.int .i64 er) := by
  have := cell_of_row w b 1 _ _ (0, 0) h; simpa using this
theorem XAt.free {w : World} {b : Nat} {s : ByteArray} {er : Int} (h : XAt w b s er) (i : Nat) : w.frozen? ⟨b, i, none⟩ = false := by
  unfold XAt at h; simp [World.frozen?, h]
theorem XAt.set {w : World} {b : Nat} {s s' : ByteArray} {er er' : Int} (h : XAt w b s er) : XAt ((w.setCell ⟨b, 0, none⟩ (.string s')).setCell ⟨b, 1, none⟩ (.int .i64 er')) b s' er' := by
  unfold XAt; rw [block_setCell (block_setCell h)]; rfl
theorem InAt.setOther {w : World} {b b' i : Nat} {s : ByteArray} {er : Int} {u : Value} (h : InAt w b s er) (hne : b ≠ b') : InAt (w.setCell ⟨b', i, none⟩ u) b s er := by
  unfold InAt; rw [Below.heap_setCell _ _ _ _ hne]; exact h
theorem act_only {w w' : World} {g b : Nat} {o : Obj} (h : w.heap[g]? = some o) (hg : g ≠ b) (ho : Only b w w') : w'.heap[g]? = some o := by rw [ho.block g hg]; exact h
theorem i64_and7 (n : Int) : bits .and .i64 n 7 = n % 8 := i64_mask n 3 (by decide)
theorem inv_fail (s : ByteArray) (er k : Int) (hinv : er ≠ 0 → s.size = 0) : failE er k ≠ 0 → (failS s er k).size = 0 := by
  unfold failE failS
  split
  · intro _; rfl
  · exact hinv
theorem rawS_size (s : ByteArray) (er n : Int) : (rawS s er n).size ≤ s.size := by
  unfold rawS failS
  split
  · split
    · exact Nat.zero_le _
    · exact Nat.le_refl _
  · simp
theorem failS_size (s : ByteArray) (er n : Int) : (failS s er n).size ≤ s.size := by
  unfold failS
  split
  · exact Nat.zero_le _
  · exact Nat.le_refl _
namespace penReads
set_option maxRecDepth 100000 in
set_option maxHeartbeats 6400000 in
theorem walk (s0 : ByteArray) (p1 : Option Addr) (len1 cap1 : Nat) (hs0 : s0.size ≤ maxLen) (w : World) (w1 : Recs actP w p1 len1) (hl : len1 ≤ 9223372036854775807) :
    Calls Try.prog 4 #[.string s0, .slice p1 len1 cap1] w fun e w' => e = .returned (.bool true) ∧ Below w.heap.size w w' := by
  unfold maxLen at hs0
  have hA := (cut_size s0 60).1
  go_enter Try.func4, Try.ntmps4
  go_wp2_with fail
  refine (penAwake_any _).mono ?_
  rintro e wa ⟨rfl, hb⟩
  go_wp2_with fail
  refine (cut_any s0 60 wa (by omega) (by omega)).mono ?_
  rintro e w2 ⟨rfl, rfl⟩
  generalize cutB s0 60 = s at hA ⊢
  go_wp2_with fail
  refine (of_any _ _).mono ?_
  rintro e w2 ⟨rfl, rfl⟩
  have hI := (inAt_new s wa).later ((Below.refl _ _).alloc (Nat.le_refl _) (.cells #[.string s, .int .i64 0] 41))
  have hX : XAt ((wa.alloc (.cells #[.string s, .int .i64 0] 89)).alloc (.cells #[.string s, .int .i64 0] 41)) (wa.heap.size + 1) s 0 := xAt_new _ _ _ (by simp)
  have hb1 := (hb.alloc hb.size (.cells #[.string s, .int .i64 0] 89)).alloc (hb.alloc hb.size (.cells #[.string s, .int .i64 0] 89)).size (.cells #[.string s, .int .i64 0] 41)
  have hB1 : w.heap.size ≤ wa.heap.size := hb.size
  have hB2 : w.heap.size ≤ wa.heap.size + 1 := by omega
  have hne : wa.heap.size ≠ wa.heap.size + 1 := by omega
  clear hb
  go_wp2_with fail
  generalize (wa.alloc (.cells #[.string s, .int .i64 0] 89)).alloc (.cells #[.string s, .int .i64 0] 41) = w2 at hI hX hb1 ⊢
  generalize wa.heap.size + 1 = b2 at hX hB2 hne ⊢
  generalize wa.heap.size = b1 at hI hB1 hne ⊢
  go_loopw [7] (fun i wr => ∃ (k : Nat) (s : ByteArray) (er : Int), k ≤ len1 ∧ k ≤ 20 ∧ i = .int .i64 k ∧ InAt wr b1 s er ∧ XAt wr b2 s er ∧ (er ≠ 0 → s.size = 0) ∧ s.size ≤ 60 ∧ Below w.heap.size w wr) (fun i _ => 20 - (intOf i).toNat)
  case atStart => exact ⟨0, s, 0, Nat.zero_le _, by decide, rfl, hI, hX, by simp, hA, hb1⟩
  case round =>
    obtain ⟨k, s, er, hk, hk20, rfl, hI1, hX1, hinv, hsz, hb2⟩ := hrel
    clear hI hX hb1
    by_cases hlt : k < len1
    · by_cases hlt2 : k < 20
      · obtain ⟨ba, off, rfl, hba, kd, m, x, hc0, hc1, hc2, ⟨hm1, hm2⟩, hx⟩ := act_at w1 hb2 hlt
        have g1 : wr.heap.size ≠ b1 := by have := hI1.lt; omega
        have g2 : wr.heap.size ≠ b2 := by have := hX1.lt; omega
        have hIa := hI1.later ((Below.refl _ _).alloc (Nat.le_refl _) (.cells #[.int .i64 kd, .int .i64 m, .string x] 28))
        have hXa := hX1.later ((Below.refl _ _).alloc (Nat.le_refl _) (.cells #[.int .i64 kd, .int .i64 m, .string x] 28))
        have hb3 := hb2.alloc hb2.size (.cells #[.int .i64 kd, .int .i64 m, .string x] 28)
        have hact : (wr.alloc (.cells #[.int .i64 kd, .int .i64 m, .string x] 28)).heap[wr.heap.size]? = some (.cells #[.int .i64 kd, .int .i64 m, .string x] 28 (0, 0)) := heap_alloc_new _ _
        clear w1
        go_upto_block 2 with fail
        go_cut [9, 10, 11, 12] (fun n want t text wx => (∃ v : Int, n = .int .i64 v ∧ want = .int .i64 v) ∧ (∃ y, t = .string y ∧ text = .string y) ∧ ∃ (s : ByteArray) (er : Int), InAt wx b1 s er ∧ XAt wx b2 s er ∧ (er ≠ 0 → s.size = 0) ∧ s.size ≤ 60 ∧ Below w.heap.size w wx)
        case first =>
          by_cases h0 : kd = 0
          · subst h0
            have HU := inU8_any b1 s er _ hIa (by omega)
            have HN : ∀ W, _ := fun W => refNum_any s er 1 W (by omega) hinv (by decide)
            have hN4 := getN_4 (by_ (rawT s 1)) (by rw [by_len]; have := (rawT_size s 1).1; unfold rawN at this; omega)
            have hi2 := inv_raw s er 1 hinv
            have hz2 := rawS_size s er 1
            simp only [refIn] at HN
            generalize rawS s er 1 = s2 at HU HN hi2 hz2
            generalize rawE s er 1 = er2 at HU HN hi2
            generalize getN (by_ (rawT s 1)) = N at HU HN hN4
            have HN' := Lib.hid HN
            clear HN
            go_wp2_with fail
            refine HU.mono ?_
            rintro e w3 ⟨rfl, hI3, ho3⟩
            have hX3 := hXa.only hne.symm ho3
            have hb4 := hb3.trans (ho3.below hB1)
            have c0 := hX3.cell0
            have c1 := hX3.cell1
            clear HU hIa hXa hb3 ho3 hact hI1 hX1 hb2 hc0 hc1 hc2
            go_wp2_with fail
            refine (HN'.out _).mono ?_
            rintro e w4 ⟨rfl, hb5⟩
            have hI4 := hI3.later hb5
            have hX4 := hX3.later hb5
            have hb6 := hb4.trans (hb5.mono hb4.size)
            clear hI3 hX3 hb5 hb4 c0 c1 HN'
            have c0 := hX4.cell0
            have c1 := hX4.cell1
            have f0 := hX4.free 0
            have f1 := hX4.free 1
            go_wp2_with fail
            go_meet
            exact ⟨⟨_, rfl, rfl⟩, ⟨_, rfl, rfl⟩, s2, er2, (hI4.setOther hne).setOther hne, hX4.set, hi2, by omega, (hb6.setCell hB2 _).setCell hB2 _⟩
          · have k0 : (kd == 0) = false := by simpa using h0
            clear h0
            by_cases h1 : kd = 1
            · subst h1
              have HU := inU16_any b1 s er _ hIa (by omega)
              have HN : ∀ W, _ := fun W => refNum_any s er 2 W (by omega) hinv (by decide)
              have hN4 := getN_4 (by_ (rawT s 2)) (by rw [by_len]; have := (rawT_size s 2).1; unfold rawN at this; omega)
              have hi2 := inv_raw s er 2 hinv
              have hz2 := rawS_size s er 2
              simp only [refIn] at HN
              generalize rawS s er 2 = s2 at HU HN hi2 hz2
              generalize rawE s er 2 = er2 at HU HN hi2
              generalize getN (by_ (rawT s 2)) = N at HU HN hN4
              have HN' := Lib.hid HN
              clear HN
              go_wp2_with fail
              refine HU.mono ?_
              rintro e w3 ⟨rfl, hI3, ho3⟩
              have hX3 := hXa.only hne.symm ho3
              have hb4 := hb3.trans (ho3.below hB1)
              have c0 := hX3.cell0
              have c1 := hX3.cell1
              clear HU hIa hXa hb3 ho3 hact hI1 hX1 hb2 hc0 hc1 hc2
              go_wp2_with fail
              refine (HN'.out _).mono ?_
              rintro e w4 ⟨rfl, hb5⟩
              have hI4 := hI3.later hb5
              have hX4 := hX3.later hb5
              have hb6 := hb4.trans (hb5.mono hb4.size)
              clear hI3 hX3 hb5 hb4 c0 c1 HN'
              have c0 := hX4.cell0
              have c1 := hX4.cell1
              have f0 := hX4.free 0
              have f1 := hX4.free 1
              go_wp2_with fail
              go_meet
              exact ⟨⟨_, rfl, rfl⟩, ⟨_, rfl, rfl⟩, s2, er2, (hI4.setOther hne).setOther hne, hX4.set, hi2, by omega, (hb6.setCell hB2 _).setCell hB2 _⟩
            · have k1 : (kd == 1) = false := by simpa using h1
              clear h1
              by_cases h2 : kd = 2
              · subst h2
                have HU := inU24_any b1 s er _ hIa (by omega)
                have HN : ∀ W, _ := fun W => refNum_any s er 3 W (by omega) hinv (by decide)
                have hN4 := getN_4 (by_ (rawT s 3)) (by rw [by_len]; have := (rawT_size s 3).1; unfold rawN at this; omega)
                have hi2 := inv_raw s er 3 hinv
                have hz2 := rawS_size s er 3
                simp only [refIn] at HN
                generalize rawS s er 3 = s2 at HU HN hi2 hz2
                generalize rawE s er 3 = er2 at HU HN hi2
                generalize getN (by_ (rawT s 3)) = N at HU HN hN4
                have HN' := Lib.hid HN
                clear HN
                go_wp2_with fail
                refine HU.mono ?_
                rintro e w3 ⟨rfl, hI3, ho3⟩
                have hX3 := hXa.only hne.symm ho3
                have hb4 := hb3.trans (ho3.below hB1)
                have c0 := hX3.cell0
                have c1 := hX3.cell1
                clear HU hIa hXa hb3 ho3 hact hI1 hX1 hb2 hc0 hc1 hc2
                go_wp2_with fail
                refine (HN'.out _).mono ?_
                rintro e w4 ⟨rfl, hb5⟩
                have hI4 := hI3.later hb5
                have hX4 := hX3.later hb5
                have hb6 := hb4.trans (hb5.mono hb4.size)
                clear hI3 hX3 hb5 hb4 c0 c1 HN'
                have c0 := hX4.cell0
                have c1 := hX4.cell1
                have f0 := hX4.free 0
                have f1 := hX4.free 1
                go_wp2_with fail
                go_meet
                exact ⟨⟨_, rfl, rfl⟩, ⟨_, rfl, rfl⟩, s2, er2, (hI4.setOther hne).setOther hne, hX4.set, hi2, by omega, (hb6.setCell hB2 _).setCell hB2 _⟩
              · have k2 : (kd == 2) = false := by simpa using h2
                clear h2
                by_cases h3 : kd = 3
                · subst h3
                  have HU := inU32_any b1 s er _ hIa (by omega)
                  have HN : ∀ W, _ := fun W => refNum_any s er 4 W (by omega) hinv (by decide)
                  have hN4 := getN_4 (by_ (rawT s 4)) (by rw [by_len]; have := (rawT_size s 4).1; unfold rawN at this; omega)
                  have hi2 := inv_raw s er 4 hinv
                  have hz2 := rawS_size s er 4
                  simp only [refIn] at HN
                  generalize rawS s er 4 = s2 at HU HN hi2 hz2
                  generalize rawE s er 4 = er2 at HU HN hi2
                  generalize getN (by_ (rawT s 4)) = N at HU HN hN4
                  have HN' := Lib.hid HN
                  clear HN
                  go_wp2_with fail
                  refine HU.mono ?_
                  rintro e w3 ⟨rfl, hI3, ho3⟩
                  have hX3 := hXa.only hne.symm ho3
                  have hb4 := hb3.trans (ho3.below hB1)
                  have c0 := hX3.cell0
                  have c1 := hX3.cell1
                  clear HU hIa hXa hb3 ho3 hact hI1 hX1 hb2 hc0 hc1 hc2
                  go_wp2_with fail
                  refine (HN'.out _).mono ?_
                  rintro e w4 ⟨rfl, hb5⟩
                  have hI4 := hI3.later hb5
                  have hX4 := hX3.later hb5
                  have hb6 := hb4.trans (hb5.mono hb4.size)
                  clear hI3 hX3 hb5 hb4 c0 c1 HN'
                  have c0 := hX4.cell0
                  have c1 := hX4.cell1
                  have f0 := hX4.free 0
                  have f1 := hX4.free 1
                  go_wp2_with fail
                  go_meet
                  exact ⟨⟨_, rfl, rfl⟩, ⟨_, rfl, rfl⟩, s2, er2, (hI4.setOther hne).setOther hne, hX4.set, hi2, by omega, (hb6.setCell hB2 _).setCell hB2 _⟩
                · have k3 : (kd == 3) = false := by simpa using h3
                  clear h3
                  by_cases h4 : kd = 4
                  · subst h4
                    obtain ⟨ac1, ac2⟩ := act_cells hact
                    have HU := inRaw_any b1 s er m _ hIa (by omega)
                    have HN : ∀ W, _ := fun W => refRaw_any s er m W (by omega) hinv
                    have hi2 := inv_raw s er m hinv
                    have hz2 := rawS_size s er m
                    simp only [refIn] at HN
                    generalize rawS s er m = s2 at HU HN hi2 hz2
                    generalize rawE s er m = er2 at HU HN hi2
                    generalize rawT s m = T at HU HN
                    have HN' := Lib.hid HN
                    clear HN
                    go_wp2_with fail
                    refine HU.mono ?_
                    rintro e w3 ⟨rfl, hI3, ho3⟩
                    have hX3 := hXa.only hne.symm ho3
                    have hact3 := act_only hact g1 ho3
                    have hb4 := hb3.trans (ho3.below hB1)
                    have c0 := hX3.cell0
                    have c1 := hX3.cell1
                    clear HU hIa hXa hb3 ho3 hact ac1 ac2 hI1 hX1 hb2 hc0 hc1 hc2
                    obtain ⟨ac1, ac2⟩ := act_cells hact3
                    go_wp2_with fail
                    refine (HN'.out _).mono ?_
                    rintro e w4 ⟨rfl, hb5⟩
                    have hI4 := hI3.later hb5
                    have hX4 := hX3.later hb5
                    have hb6 := hb4.trans (hb5.mono hb4.size)
                    clear hI3 hX3 hb5 hb4 c0 c1 HN' ac1 ac2 hact3
                    have c0 := hX4.cell0
                    have c1 := hX4.cell1
                    have f0 := hX4.free 0
                    have f1 := hX4.free 1
                    go_wp2_with fail
                    go_meet
                    exact ⟨⟨_, rfl, rfl⟩, ⟨_, rfl, rfl⟩, s2, er2, (hI4.setOther hne).setOther hne, hX4.set, hi2, by omega, (hb6.setCell hB2 _).setCell hB2 _⟩
                  · have k4 : (kd == 4) = false := by simpa using h4
                    clear h4
                    obtain ⟨ac1, ac2⟩ := act_cells hact
                    have hm7 := i64_and7 m
                    have HU := fail_any b1 s er (m % 8) _ hIa
                    go_wp2_with fail
                    refine HU.mono ?_
                    rintro e w3 ⟨rfl, hI3, ho3⟩
                    have hX3 := hXa.only hne.symm ho3
                    have hact3 := act_only hact g1 ho3
                    have hb4 := hb3.trans (ho3.below hB1)
                    have hi2 := inv_fail s er (m % 8) hinv
                    have hz2 := failS_size s er (m % 8)
                    have c0 := hX3.cell0
                    have c1 := hX3.cell1
                    have f0 := hX3.free 0
                    have f1 := hX3.free 1
                    clear HU hIa hXa hb3 ho3 hact ac1 ac2 hI1 hX1 hb2 hc0 hc1 hc2
                    obtain ⟨ac1, ac2⟩ := act_cells hact3
                    by_cases he : er = 0
                    · by_cases h7 : m % 8 = 0
                      · have e1 : failS s er (m % 8) = s := by unfold failS; rw [if_neg (fun h => h.2 h7)]
                        have e2 : failE er (m % 8) = er := by unfold failE; rw [if_neg (fun h => h.2 h7)]
                        rw [e1, e2] at hI3
                        have h7b : (m % 8 == 0) = true := by simpa using h7
                        clear e1 e2 h7
                        subst he
                        go_wp2_with fail
                        go_meet
                        exact ⟨⟨_, rfl, rfl⟩, ⟨_, rfl, rfl⟩, s, 0, hI3, hX3, hinv, hsz, hb4⟩
                      · have e1 : failS s er (m % 8) = { data := #[] } := by unfold failS; rw [if_pos ⟨he, h7⟩]
                        have e2 : failE er (m % 8) = m % 8 := by unfold failE; rw [if_pos ⟨he, h7⟩]
                        rw [e1, e2] at hI3
                        have h7b : (m % 8 == 0) = false := by simpa using h7
                        have h7c : (m % 8 != 0) = true := by simpa using h7
                        clear e1 e2 h7
                        subst he
                        go_wp2_with fail
                        go_meet
                        exact ⟨⟨_, rfl, rfl⟩, ⟨_, rfl, rfl⟩, { data := #[] }, m % 8, (hI3.setOther hne).setOther hne, hX3.set, fun _ => rfl, by decide, (hb4.setCell hB2 _).setCell hB2 _⟩
                    · have e1 : failS s er (m % 8) = s := by unfold failS; rw [if_neg (fun h => he h.1)]
                      have e2 : failE er (m % 8) = er := by unfold failE; rw [if_neg (fun h => he h.1)]
                      rw [e1, e2] at hI3
                      have heb : (er == 0) = false := by simpa using he
                      clear e1 e2 he
                      go_wp2_with fail
                      go_meet
                      exact ⟨⟨_, rfl, rfl⟩, ⟨_, rfl, rfl⟩, s, er, hI3, hX3, hinv, hsz, hb4⟩
        case rest =>
          clear hact hIa hXa hb3 hI1 hX1 hinv hsz hb2
          obtain ⟨⟨v, rfl, rfl⟩, ⟨y, rfl, rfl⟩, s2, er2, hI, hX, hinv, hsz, hb⟩ := hcut
          have c0 := hX.cell0
          have c1 := hX.cell1
          have hbl := hX.lt
          have hE : ∀ W, _ := fun W => refEnd_any s2 er2 W hinv
          simp only [refIn] at hE
          have HE := Lib.hid hE
          clear hE
          go_wp2_with fail
          go_region_held3 (fun W => W.cell? ⟨b2, 0, none⟩ = some (.string s2) ∧ W.cell? ⟨b2, 1, none⟩ = some (.int .i64 er2) ∧ InAt W b1 s2 er2 ∧ b2 < W.heap.size) (first | (go_keep; done) | (go_split_ands; exact ⟨by assumption, by assumption, by assumption, by assumption⟩) | (go_split_ands; exact ⟨by rw [Below.cell (p := ⟨b2, 0, none⟩) (by assumption) (by assumption)]; assumption, by rw [Below.cell (p := ⟨b2, 1, none⟩) (by assumption) (by assumption)]; assumption, InAt.later (by assumption) (by assumption), by have := Below.size (by assumption); omega⟩)) (first | ((go_at_call 31; refine (left_any b1 s2 er2 _ (by go_split_ands; assumption)).mono ?_; rintro e w' ⟨rfl, rfl⟩)) | ((go_at_call 32; refine (err_any b1 s2 er2 _ (by go_split_ands; assumption)).mono ?_; rintro e w' ⟨rfl, rfl⟩)) | ((go_at_call 33; refine (end_any b1 s2 er2 _ (by go_split_ands; assumption)).mono ?_; rintro e w' ⟨rfl, rfl⟩)) | ((go_at_call 34; refine (HE.out _).mono ?_; rintro e w' ⟨rfl, hbE⟩)))
          have hI2 := (show InAt wc.drew b1 s2 er2 from hI).later hbE
          have hX2 := (show XAt wc.drew b2 s2 er2 from hX).later hbE
          have hb7 := hb.drew.trans (hbE.mono hb.drew.size)
          clear hI hX hb hbE HE c0 c1 hc0 hc1 hc2
          go_wp2
          go_roundw
          case rel => exact ⟨k + 1, s2, er2, by omega, by omega, by go_num, hI2, hX2, hinv, hsz, hb7⟩
          case measure => simp [intOf]; omega
      · obtain rfl : k = 20 := by omega
        go_wp2
        go_ret
        exact ⟨rfl, hb2⟩
    · obtain rfl : k = len1 := by omega
      go_wp2
      go_ret
      exact ⟨rfl, hb2⟩
end penReads
end Go.Proofs.Ytpmcbnnbhjolmaa
