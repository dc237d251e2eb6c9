/- Reports: which may be. -/
import Derived.Test.YtjoikidnnhjogaaRpM
import Derived.Test.YtjoikidnnhjogaaPcJ
namespace Go.Proofs.Ytjoikidnnhjogaa
open Go.RowKit
set_option linter.unusedVariables false
theorem sentMay_f (c t p b : Int) : sentMay false c t p b ↔ (c = 0 ∧ t = 0 ∧ p = 0 ∧ b = 0) := ⟨fun h => h.2 rfl, fun h => ⟨fun x => (by cases x), fun _ => h⟩⟩
theorem sentMay_t (c t p b : Int) : sentMay true c t p b ↔ (0 ≤ c ∧ c ≤ 1099511627776) := ⟨fun h => h.1 rfl, fun h => ⟨fun _ => h, fun x => (by cases x)⟩⟩
set_option maxHeartbeats 800000 in
theorem sentMay_any (isS : Bool) (clock time packets bytes : Int) (w : World) (b : Bool) (hb : b = true ↔ sentMay isS clock time packets bytes) :
    Calls Try.prog 113 #[.agg #[.int .i64 clock, .int .u32 time, .int .u32 packets, .int .u32 bytes], .bool isS] w fun e w' => e = .returned (.bool b) ∧ Below w.heap.size w w' := by
  cases isS
  · have HB := Lib.hid hb
    clear hb
    go_enter Try.func113, Try.ntmps113
    go_wp2
    all_goals
      go_ret
      refine ⟨ret_bool ?_, (Below.refl _ _).alloc (Nat.le_refl _) _⟩
      first
        | exact (HB.out.2 ((sentMay_f _ _ _ _).2 ⟨by assumption, by assumption, by assumption, by assumption⟩)).symm
        | (cases b with
          | false => rfl
          | true =>
            obtain ⟨e1, e2, e3, e4⟩ := (sentMay_f _ _ _ _).1 (HB.out.1 rfl)
            simp_all)
  · have hb2 : b = true ↔ (0 ≤ clock ∧ clock ≤ 1099511627776) := hb.trans (sentMay_t _ _ _ _)
    clear hb
    by_cases k1 : clock < 0
    · obtain rfl : b = false := by
        cases b with
        | false => rfl
        | true => exact absurd (hb2.1 rfl) (by omega)
      clear hb2
      go_enter Try.func113, Try.ntmps113
      go_wp2
      go_ret
      exact ⟨rfl, (Below.refl _ _).alloc (Nat.le_refl _) _⟩
    · by_cases k2 : 1099511627776 < clock
      · have k3 : decide (clock ≤ 1099511627776) = false := by simp; omega
        obtain rfl : b = false := by
          cases b with
          | false => rfl
          | true => exact absurd (hb2.1 rfl) (by omega)
        clear hb2 k2
        go_enter Try.func113, Try.ntmps113
        go_wp2
        go_ret
        exact ⟨rfl, (Below.refl _ _).alloc (Nat.le_refl _) _⟩
      · have k3 : decide (clock ≤ 1099511627776) = true := by simp; omega
        obtain rfl : b = true := hb2.2 (by omega)
        clear hb2 k2
        go_enter Try.func113, Try.ntmps113
        go_wp2
        go_ret
        exact ⟨rfl, (Below.refl _ _).alloc (Nat.le_refl _) _⟩
set_option maxHeartbeats 800000 in
theorem bkMay_any (p : BK) (w : World) (b : Bool) (hb : b = true ↔ bkMay p) :
    Calls Try.prog 114 #[.agg #[.int .u32 p.src, .int .i64 p.frac, .int .i64 p.lost, .int .u32 p.high, .int .u32 p.jit, .int .u32 p.last, .int .u32 p.delay]] w fun e w' => e = .returned (.bool b) ∧ Below w.heap.size w w' := by
  obtain ⟨src, frac, lost, high, jit, last, delay⟩ := p
  unfold bkMay at hb
  simp only at *
  by_cases k1 : frac < 0
  · obtain rfl : b = false := by
      cases b with
      | false => rfl
      | true => exact absurd (hb.1 rfl) (by omega)
    clear hb
    go_enter Try.func114, Try.ntmps114
    go_wp2
    go_ret
    exact ⟨rfl, (Below.refl _ _).alloc (Nat.le_refl _) _⟩
  · by_cases k2 : 255 < frac
    · obtain rfl : b = false := by
        cases b with
        | false => rfl
        | true => exact absurd (hb.1 rfl) (by omega)
      clear hb
      go_enter Try.func114, Try.ntmps114
      go_wp2
      go_ret
      exact ⟨rfl, (Below.refl _ _).alloc (Nat.le_refl _) _⟩
    · by_cases k3 : lost < -8388608
      · obtain rfl : b = false := by
          cases b with
          | false => rfl
          | true => exact absurd (hb.1 rfl) (by omega)
        clear hb
        go_enter Try.func114, Try.ntmps114
        go_wp2
        go_ret
        exact ⟨rfl, (Below.refl _ _).alloc (Nat.le_refl _) _⟩
      · by_cases k4 : 8388607 < lost
        · have k5 : decide (lost ≤ 8388607) = false := by simp; omega
          obtain rfl : b = false := by
            cases b with
            | false => rfl
            | true => exact absurd (hb.1 rfl) (by omega)
          clear hb k4
          go_enter Try.func114, Try.ntmps114
          go_wp2
          go_ret
          exact ⟨rfl, (Below.refl _ _).alloc (Nat.le_refl _) _⟩
        · have k5 : decide (lost ≤ 8388607) = true := by simp; omega
          obtain rfl : b = true := hb.2 (by omega)
          clear hb k4
          go_enter Try.func114, Try.ntmps114
          go_wp2
          go_ret
          exact ⟨rfl, (Below.refl _ _).alloc (Nat.le_refl _) _⟩
/-- Seven cells in memory. -/
def At7 (T : TypeId) (W : World) (g : Nat) (c0 c1 c2 c3 c4 c5 c6 : Value) : Prop := W.heap[g]? = some (.cells #[c0, c1, c2, c3, c4, c5, c6] T (0, 0))
section
variable {T : TypeId} {W W' : World} {g b : Nat} {c0 c1 c2 c3 c4 c5 c6 : Value}
theorem At7.cells (h : At7 T W g c0 c1 c2 c3 c4 c5 c6) : W.cell? ⟨g, 0, none⟩ = some c0 ∧ W.cell? ⟨g, 1, none⟩ = some c1 ∧ W.cell? ⟨g, 2, none⟩ = some c2 ∧ W.cell? ⟨g, 3, none⟩ = some c3 ∧ W.cell? ⟨g, 4, none⟩ = some c4 ∧ W.cell? ⟨g, 5, none⟩ = some c5 ∧ W.cell? ⟨g, 6, none⟩ = some c6 := by
  have f := fun i => cell_of_row W g i _ _ (0, 0) h
  exact ⟨by simpa using f 0, by simpa using f 1, by simpa using f 2, by simpa using f 3, by simpa using f 4, by simpa using f 5, by simpa using f 6⟩
theorem At7.free (h : At7 T W g c0 c1 c2 c3 c4 c5 c6) (i : Nat) : W.frozen? ⟨g, i, none⟩ = false := by
  unfold At7 at h; simp [World.frozen?, h]
theorem At7.frees (h : At7 T W g c0 c1 c2 c3 c4 c5 c6) : W.frozen? ⟨g, 0, none⟩ = false ∧ W.frozen? ⟨g, 1, none⟩ = false ∧ W.frozen? ⟨g, 2, none⟩ = false ∧ W.frozen? ⟨g, 3, none⟩ = false ∧ W.frozen? ⟨g, 4, none⟩ = false ∧ W.frozen? ⟨g, 5, none⟩ = false ∧ W.frozen? ⟨g, 6, none⟩ = false := ⟨h.free 0, h.free 1, h.free 2, h.free 3, h.free 4, h.free 5, h.free 6⟩
theorem At7.later (h : At7 T W g c0 c1 c2 c3 c4 c5 c6) (hb : Below W.heap.size W W') : At7 T W' g c0 c1 c2 c3 c4 c5 c6 := by unfold At7; rw [hb.block g (lt_of_block h)]; exact h
theorem At7.lt (h : At7 T W g c0 c1 c2 c3 c4 c5 c6) : g < W.heap.size := lt_of_block h
theorem At7.alloc (h : At7 T W g c0 c1 c2 c3 c4 c5 c6) (o : Obj) : At7 T (W.alloc o) g c0 c1 c2 c3 c4 c5 c6 := heap_at_old _ _ _ _ h
theorem At7.drew (h : At7 T W g c0 c1 c2 c3 c4 c5 c6) : At7 T W.drew g c0 c1 c2 c3 c4 c5 c6 := h
theorem At7.only (h : At7 T W g c0 c1 c2 c3 c4 c5 c6) (hg : g ≠ b) (ho : Only b W W') : At7 T W' g c0 c1 c2 c3 c4 c5 c6 := by unfold At7; rw [ho.block g hg]; exact h
theorem At7.ex (h : At7 T W g c0 c1 c2 c3 c4 c5 c6) (hg : g ≠ b) (ho : Ex b W W') : At7 T W' g c0 c1 c2 c3 c4 c5 c6 := by unfold At7; rw [ho.block g (lt_of_block h) hg]; exact h
theorem at7_new (T : TypeId) (W : World) (c0 c1 c2 c3 c4 c5 c6 : Value) : At7 T (W.alloc (.cells #[c0, c1, c2, c3, c4, c5, c6] T)) W.heap.size c0 c1 c2 c3 c4 c5 c6 := heap_alloc_new W _
theorem at7_store (d0 d1 d2 d3 d4 d5 d6 : Value) (h : At7 T W g c0 c1 c2 c3 c4 c5 c6) : At7 T (((((((W.setCell ⟨g, 0, none⟩ d0).setCell ⟨g, 1, none⟩ d1).setCell ⟨g, 2, none⟩ d2).setCell ⟨g, 3, none⟩ d3).setCell ⟨g, 4, none⟩ d4).setCell ⟨g, 5, none⟩ d5).setCell ⟨g, 6, none⟩ d6) g d0 d1 d2 d3 d4 d5 d6 := by
  have h0 : At7 T (W.setCell ⟨g, 0, none⟩ d0) g d0 c1 c2 c3 c4 c5 c6 := block_setCell h
  have h1 : At7 T ((W.setCell ⟨g, 0, none⟩ d0).setCell ⟨g, 1, none⟩ d1) g d0 d1 c2 c3 c4 c5 c6 := block_setCell h0
  have h2 : At7 T (((W.setCell ⟨g, 0, none⟩ d0).setCell ⟨g, 1, none⟩ d1).setCell ⟨g, 2, none⟩ d2) g d0 d1 d2 c3 c4 c5 c6 := block_setCell h1
  have h3 : At7 T ((((W.setCell ⟨g, 0, none⟩ d0).setCell ⟨g, 1, none⟩ d1).setCell ⟨g, 2, none⟩ d2).setCell ⟨g, 3, none⟩ d3) g d0 d1 d2 d3 c4 c5 c6 := block_setCell h2
  have h4 : At7 T (((((W.setCell ⟨g, 0, none⟩ d0).setCell ⟨g, 1, none⟩ d1).setCell ⟨g, 2, none⟩ d2).setCell ⟨g, 3, none⟩ d3).setCell ⟨g, 4, none⟩ d4) g d0 d1 d2 d3 d4 c5 c6 := block_setCell h3
  have h5 : At7 T ((((((W.setCell ⟨g, 0, none⟩ d0).setCell ⟨g, 1, none⟩ d1).setCell ⟨g, 2, none⟩ d2).setCell ⟨g, 3, none⟩ d3).setCell ⟨g, 4, none⟩ d4).setCell ⟨g, 5, none⟩ d5) g d0 d1 d2 d3 d4 d5 c6 := block_setCell h4
  have h6 : At7 T (((((((W.setCell ⟨g, 0, none⟩ d0).setCell ⟨g, 1, none⟩ d1).setCell ⟨g, 2, none⟩ d2).setCell ⟨g, 3, none⟩ d3).setCell ⟨g, 4, none⟩ d4).setCell ⟨g, 5, none⟩ d5).setCell ⟨g, 6, none⟩ d6) g d0 d1 d2 d3 d4 d5 d6 := block_setCell h5
  exact h6
theorem store7_only (W : World) (g : Nat) (d0 d1 d2 d3 d4 d5 d6 : Value) : Only g W (((((((W.setCell ⟨g, 0, none⟩ d0).setCell ⟨g, 1, none⟩ d1).setCell ⟨g, 2, none⟩ d2).setCell ⟨g, 3, none⟩ d3).setCell ⟨g, 4, none⟩ d4).setCell ⟨g, 5, none⟩ d5).setCell ⟨g, 6, none⟩ d6) :=
  (((((((Only.refl _ _).setCell 0 _).setCell 1 _).setCell 2 _).setCell 3 _).setCell 4 _).setCell 5 _).setCell 6 _
end
theorem bk_take (l : List BK) (k : Nat) (h : k < l.length) (h1 : ∀ b ∈ l.take k, bkMay b) (h2 : bkMay (l[k]?.getD zeroBK)) : ∀ b ∈ l.take (k + 1), bkMay b := by
  intro p hp
  rw [List.take_succ_eq_append_getElem h] at hp
  rcases List.mem_append.1 hp with hp | hp
  · exact h1 p hp
  · rw [List.mem_singleton] at hp
    rw [List.getElem?_eq_getElem h] at h2
    subst hp; exact h2
set_option maxRecDepth 100000 in
set_option maxHeartbeats 1600000 in
theorem rpCheck_any (r : RP) (a : Option Addr) (c : Nat) (w : World) (hr : ReadsB BK.vals w a r.blocks) (hl : r.blocks.length ≤ 9223372036854775807) (v : Int) (hv : (v = 0 ∧ rpMay r) ∨ (v = 6 ∧ ¬ rpMay r)) :
    Calls Try.prog 77 #[.agg #[.int .u32 r.src, .bool r.isS, .int .i64 r.clock, .int .u32 r.time, .int .u32 r.packets, .int .u32 r.bytes, .slice a r.blocks.length c]] w fun e w' => e = .returned (.int .i64 v) ∧ Below w.heap.size w w' := by
  have HV := Lib.hid hv
  clear hv
  have hmay : Hid (rpMay r ↔ (sentMay r.isS r.clock r.time r.packets r.bytes ∧ r.blocks.length ≤ 31 ∧ ∀ b ∈ r.blocks, bkMay b)) := Lib.hid Iff.rfl
  generalize rpMay r = RM at HV hmay
  obtain ⟨src, isS, clock, time, packets, bytes, l⟩ := r
  simp only at *
  have hX1 := at7_new 67 w (.int .u32 src) (.bool isS) (.int .i64 clock) (.int .u32 time) (.int .u32 packets) (.int .u32 bytes) (.slice a l.length c)
  have hb1 : Below w.heap.size w (w.alloc (.cells #[.int .u32 src, .bool isS, .int .i64 clock, .int .u32 time, .int .u32 packets, .int .u32 bytes, .slice a l.length c] 67)) := (Below.refl _ _).alloc (Nat.le_refl _) _
  by_cases hs : sentMay isS clock time packets bytes
  · have HS := Lib.hid (fun W => sentMay_any isS clock time packets bytes W true (by simp [hs]))
    by_cases hl2 : 31 < l.length
    · obtain rfl : v = 6 := by
        rcases HV.out with ⟨_, h⟩ | ⟨h, _⟩
        · have := (hmay.out.1 h).2.1; omega
        · exact h
      clear hs HV hmay
      go_enter Try.func77, Try.ntmps77
      go_wp2_with fail
      refine (HS.out _).mono ?_
      rintro e w2 ⟨rfl, hb2⟩
      obtain ⟨d0, d1, d2, d3, d4, d5, d6⟩ := (hX1.later hb2).cells
      go_wp2
      go_ret
      exact ⟨rfl, hb1.trans (hb2.mono hb1.size)⟩
    · have HM := Lib.hid (fun h => hmay.out.2 ⟨hs, by omega, h⟩)
      have HN := Lib.hid (fun (b : BK) (hb : b ∈ l) (h : ¬ bkMay b) => (show ¬ RM from fun hr => h ((hmay.out.1 hr).2.2 b hb)))
      clear hs hmay
      have h31 : (l.length : Int) ≤ 31 := by omega
      go_enter Try.func77, Try.ntmps77
      go_wp2_with fail
      refine (HS.out _).mono ?_
      rintro e w2 ⟨rfl, hb2⟩
      have hX2 := hX1.later hb2
      have hbb := hb1.trans (hb2.mono hb1.size)
      have HR := Lib.hid (fun W (h : Below w.heap.size w W) => hr.later h)
      clear hX1 hb1 hb2 HS hr
      obtain ⟨d0, d1, d2, d3, d4, d5, d6⟩ := hX2.cells
      generalize hgg : w.heap.size = g at d0 d1 d2 d3 d4 d5 d6 hX2 hbb HR ⊢
      have HG := Lib.hid hgg
      clear hgg
      have hgs : g ≤ w2.heap.size := by have := hX2.lt; omega
      go_wp2_with fail
      go_loopw [20] (fun i wr => ∃ k : Nat, k ≤ l.length ∧ i = .int .i64 k ∧ Below g w wr ∧ g ≤ wr.heap.size ∧ Hid (∀ b ∈ l.take k, bkMay b)) (fun i _ => l.length - (intOf i).toNat)
      case atStart => exact ⟨0, Nat.zero_le _, rfl, hbb, hgs, Lib.hid (fun b hb => by simp at hb)⟩
      case round =>
        obtain ⟨k, hk, rfl, hb3, hg3, HK⟩ := hrel
        clear hbb hgs hX2 d0 d1 d2 d3 d4 d5 d6
        by_cases hlt : k < l.length
        · obtain ⟨ab, off, rfl, x0, x1, x2, x3, x4, x5, x6⟩ := (HR.out _ hb3).at hlt
          have HT := Lib.hid (bk_take l k hlt HK.out)
          have hmem := HN.out _ (bk_mem l k hlt)
          generalize l[k]?.getD zeroBK = p at x0 x1 x2 x3 x4 x5 x6 HT hmem
          have hba := hb3.alloc hg3 (.cells #[.int .u32 p.src, .int .i64 p.frac, .int .i64 p.lost, .int .u32 p.high, .int .u32 p.jit, .int .u32 p.last, .int .u32 p.delay] 153)
          by_cases hp : bkMay p
          · have HB := Lib.hid (fun W => bkMay_any p W true (by simp [hp]))
            have HT2 := Lib.hid (HT.out hp)
            clear hp hmem HT
            obtain ⟨bs, bf, bl, bh, bj, bt, bd⟩ := p
            simp only at *
            go_wp2_with fail
            refine (HB.out _).mono ?_
            rintro e w4 ⟨rfl, hb4⟩
            have hb5 := hba.trans (hb4.mono (by simp; omega))
            have hg5 : g ≤ w4.heap.size := by have := hb4.size; simp at this; omega
            go_wp2
            go_roundw
            case rel => exact ⟨k + 1, by omega, by go_num, hb5, hg5, HT2⟩
            case measure => simp [intOf]; omega
          · have HB := Lib.hid (fun W => bkMay_any p W false (by simp [hp]))
            obtain rfl : v = 6 := by
              rcases HV.out with ⟨_, h⟩ | ⟨h, _⟩
              · exact absurd h (hmem hp)
              · exact h
            clear hp hmem HT HV
            obtain ⟨bs, bf, bl, bh, bj, bt, bd⟩ := p
            simp only at *
            go_wp2_with fail
            refine (HB.out _).mono ?_
            rintro e w4 ⟨rfl, hb4⟩
            have hb5 := hba.trans (hb4.mono (by simp; omega))
            go_wp2
            go_ret
            exact ⟨rfl, by rw [HG.out]; exact hb5⟩
        · obtain rfl : k = l.length := by omega
          obtain rfl : v = 0 := by
            rcases HV.out with ⟨h, _⟩ | ⟨_, h⟩
            · exact h
            · refine absurd (HM.out (fun b hb => HK.out b ?_)) h
              rw [List.take_length]; exact hb
          clear HV
          go_wp2
          go_ret
          exact ⟨rfl, by rw [HG.out]; exact hb3⟩
  · have HS := Lib.hid (fun W => sentMay_any isS clock time packets bytes W false (by simp [hs]))
    obtain rfl : v = 6 := by
      rcases HV.out with ⟨_, h⟩ | ⟨h, _⟩
      · exact absurd (hmay.out.1 h).1 hs
      · exact h
    clear hs HV hmay
    go_enter Try.func77, Try.ntmps77
    go_wp2_with fail
    refine (HS.out _).mono ?_
    rintro e w2 ⟨rfl, hb2⟩
    go_wp2
    go_ret
    exact ⟨rfl, hb1.trans (hb2.mono hb1.size)⟩
end Go.Proofs.Ytjoikidnnhjogaa

