/- rtp: Pack. -/
import Derived.Test.YtilobmebfeenfaaRtpW
namespace Go.Proofs.Ytilobmebfeenfaa
open Go.RowKit
set_option linter.unusedVariables false
/-- A packet in memory. -/
def PkAt (W : World) (g : Nat) (pc : Array Value) : Prop := W.heap[g]? = some (.cells pc 30 (0, 0))
theorem PkAt.later {w w' : World} {g : Nat} {pc : Array Value} (h : PkAt w g pc) (hb : Below w.heap.size w w') : PkAt w' g pc := by unfold PkAt; rw [hb.block g (lt_of_block h)]; exact h
theorem PkAt.alloc {w : World} {g : Nat} {pc : Array Value} (h : PkAt w g pc) (o : Obj) : PkAt (w.alloc o) g pc := heap_at_old _ _ _ _ h
theorem PkAt.others {w w' : World} {g b : Nat} {pc : Array Value} (h : PkAt w g pc) (hg : g ≠ b) (ho : Others b w w') : PkAt w' g pc := ho g _ h hg (by intro cur p e; cases e)
theorem pk_S {W : World} {g : Nat} {c0 c1 c2 c3 c4 c5 c6 c7 c8 c9 c10 : Value} (h : PkAt W g #[c0, c1, c2, c3, c4, c5, c6, c7, c8, c9, c10]) :
    W.cell? ⟨g, 0, none⟩ = some c0 ∧ W.cell? ⟨g, 1, none⟩ = some c1 ∧ W.cell? ⟨g, 2, none⟩ = some c2 ∧ W.cell? ⟨g, 3, none⟩ = some c3 ∧ W.cell? ⟨g, 4, none⟩ = some c4 ∧ W.cell? ⟨g, 5, none⟩ = some c5 ∧ W.cell? ⟨g, 6, none⟩ = some c6 ∧ W.cell? ⟨g, 7, none⟩ = some c7 ∧ W.cell? ⟨g, 8, none⟩ = some c8 ∧ W.cell? ⟨g, 9, none⟩ = some c9 ∧ W.cell? ⟨g, 10, none⟩ = some c10 := by
  have hh : W.heap[g]? = some (.cells #[c0, c1, c2, c3, c4, c5, c6, c7, c8, c9, c10] 30 (0, 0)) := h
  have f := fun i => cell_of_row W g i _ _ (0, 0) hh
  exact ⟨by simpa using f 0, by simpa using f 1, by simpa using f 2, by simpa using f 3, by simpa using f 4, by simpa using f 5, by simpa using f 6, by simpa using f 7, by simpa using f 8, by simpa using f 9, by simpa using f 10⟩
theorem hdrL_len (p : PK) (pd : Bool) (hp : hdrOk p) : (hdrL p pd).length ≤ 263000 := by
  obtain ⟨_, _, hl, hf, ht⟩ := hp
  unfold hdrL
  simp only [List.length_append, be_len, bes_len]
  cases hx : p.hx
  · simp; omega
  · have := ht hx
    simp [be_len, by_len]; omega
theorem padL_len (n : Nat) (h : 1 ≤ n) : (padL n).length = n := by simp [padL]; omega
theorem packBad_any (p : PK) (a : Option Addr) (c : Nat) (w : World) (hs : p.ext.size ≤ 9223372036854775807) (hl : p.others.length ≤ 9223372036854775807) (hp : ¬ mayOk p) :
    Calls Try.prog 12 #[.agg (p.cells a c)] w fun e w' => e = .returned (.string { data := #[] }) ∧ Below w.heap.size w w' := by
  have HC : ∀ W, _ := fun W => check_b p a c W hs hl 6 (.inr ⟨rfl, hp⟩)
  clear hp
  obtain ⟨mrk, kind, seq, time, source, others, hx, prof, ext, data, pad⟩ := p
  simp only [PK.cells] at *
  have HC' := Lib.hid HC
  clear HC
  go_enter Try.func12, Try.ntmps12
  go_wp2_with ((go_at_call 13; refine (HC'.out _).mono ?_; rintro e w' ⟨rfl, hb⟩))
  go_ret
  exact ⟨rfl, ((Below.refl _ _).alloc (Nat.le_refl _) _).trans (hb.mono (by simp))⟩
set_option maxRecDepth 100000 in
set_option maxHeartbeats 3200000 in
theorem packGood_any (p : PK) (a : Option Addr) (c : Nat) (w : World) (hd : p.data.size ≤ 1099511000000) (hk : p.ok) (hr : Reads .u32 w a p.others) (hp : mayOk p) :
    Calls Try.prog 12 #[.agg (p.cells a c)] w fun e w' => e = .returned (.string (ofL (packL p))) ∧ Below w.heap.size w w' := by
  obtain ⟨hh, hp1, hp2⟩ := hp
  have hs : p.ext.size ≤ 9223372036854775807 := by
    obtain ⟨_, _, _, hf, ht⟩ := hh
    cases hx : p.hx
    · have := hf hx; omega
    · have := ht hx; omega
  have hl : p.others.length ≤ 9223372036854775807 := by have := hh.2.2.1; omega
  have HC : ∀ W, _ := fun W => check_b p a c W hs hl 0 (.inl ⟨rfl, hh, hp1, hp2⟩)
  have HW : ∀ (pd : Bool) (b : Nat) (v : Value) (W : World) (hO : OutAt W w.heap.size b v []) (hb : Below w.heap.size w W), _ := fun pd b v W hO hb => writeHeader_any p pd a c w.heap.size b v W hh hk hO (fun w' h1 _ => hr.later (hb.trans h1))
  have hlen := fun pd => hdrL_len p pd hh
  have hpk : Hid (packL p = hdrL p (decide (0 < p.pad)) ++ by_ p.data ++ (if 0 < p.pad then padL p.pad.toNat else [])) := rfl
  generalize packL p = PL at hpk ⊢
  clear hh hk hr hs
  generalize hH : hdrL p = hd' at HW hlen hpk
  obtain ⟨mrk, kind, seq, time, source, others, hx, prof, ext, data, pad⟩ := p
  simp only [PK.cells, PK.hcells] at *
  have HC' := Lib.hid HC
  have HW' := Lib.hid HW
  clear HC HW hH
  have hlen1 := hlen (decide (0 < pad))
  clear hlen
  go_enter Try.func12, Try.ntmps12
  go_wp2_with fail
  refine (HC'.out _).mono ?_
  rintro e w2 ⟨rfl, hb⟩
  have hP : PkAt w2 w.heap.size #[.bool mrk, .int .i64 kind, .int .u16 seq, .int .u32 time, .int .u32 source, .slice a others.length c, .bool hx, .int .i64 prof, .string ext, .string data, .int .i64 pad] := PkAt.later (heap_alloc_new w _) hb
  have hb2 : Below w.heap.size w w2 := ((Below.refl _ _).alloc (Nat.le_refl _) _).trans (hb.mono (by simp))
  have hO := out_new w2 w.heap.size hb2.size
  have hb3 := hb2.alloc hb2.size (.cells #[.slice none 0 0] 86)
  have hP3 := hP.alloc (.cells #[.slice none 0 0] 86)
  have hgne : w.heap.size ≠ w2.heap.size := by have := lt_of_block hP; omega
  have HW2 := HW'.out (decide (0 < pad)) _ _ _ hO hb3
  obtain ⟨c0, c1, c2, c3, c4, c5, c6, c7, c8, c9, c10⟩ := pk_S hP3
  clear hP hb hb2 hO HC' HW'
  go_wp2_with fail
  generalize w2.alloc (.cells #[.slice none 0 0] 86) = w3 at hb3 hP3 HW2 c0 c1 c2 c3 c4 c5 c6 c7 c8 c9 c10 ⊢
  generalize w2.heap.size = b at hgne HW2 ⊢
  generalize hd' (decide (0 < pad)) = HL at HW2 hlen1 hpk
  refine HW2.mono ?_
  rintro e w4 ⟨rfl, v4, hO4, h4, ho4⟩
  have hP4 := hP3.others hgne ho4
  have hb4 := hb3.trans h4
  clear c0 c1 c2 c3 c4 c5 c6 c7 c8 c9 c10 HW2 hP3 hb3 h4 ho4
  obtain ⟨c0, c1, c2, c3, c4, c5, c6, c7, c8, c9, c10⟩ := pk_S hP4
  go_wp2_with fail
  refine (outRaw_lit _ _ _ _ [data] _ 1 _ _ (by simp) hO4 rfl rfl (by rw [cat_one, by_len]; omega) (by simp)).mono ?_
  rintro e w5 ⟨rfl, v5, hO5, h5, ho5⟩
  have hP5 := hP4.others hgne ho5
  have hb5 := hb4.trans h5
  rw [cat_one] at hO5
  clear c0 c1 c2 c3 c4 c5 c6 c7 c8 c9 c10 hP4 hb4 h5 ho5 hO4
  obtain ⟨c0, c1, c2, c3, c4, c5, c6, c7, c8, c9, c10⟩ := pk_S hP5
  by_cases h0 : 0 < pad
  · have hpk2 : Hid (HL ++ by_ data ++ padL pad.toNat = PL) := by show _ = _; rw [hpk.out, if_pos h0]
    obtain ⟨n, rfl⟩ : ∃ n : Nat, pad = (n : Int) := ⟨pad.toNat, by omega⟩
    have hpn : ((n : Int)).toNat = n := by omega
    rw [hpn] at hpk2
    have hpl := padL_len n (by omega)
    have HPL := Lib.hid hpl
    clear hpk hpn hpl
    go_wp2_with fail
    refine (padding_any n _ (by omega) (by omega)).mono ?_
    rintro e w6 ⟨rfl, hb6⟩
    have hO6 := hO5.later hb6
    have hb7 := hb5.trans (hb6.mono hb5.size)
    clear hO5 hb5 hb6 hP5 c0 c1 c2 c3 c4 c5 c6 c7 c8 c9 c10
    go_wp2_with fail
    refine (outRaw_lit _ _ _ _ [ofL (padL n)] _ 1 _ _ (by simp) hO6 rfl rfl (by rw [cat_one, by_len, ofL_size, HPL.out, List.length_append, by_len]; omega) (by simp)).mono ?_
    rintro e w7 ⟨rfl, v7, hO7, h7, ho7⟩
    have hb8 := hb7.trans h7
    rw [cat_one, by_ofL, hpk2.out] at hO7
    clear hO6 hb7 h7 ho7
    go_wp2_with ((go_at_call 36; refine (bytes_any _ _ _ _ _ hO7).mono ?_; rintro e w' ⟨rfl, rfl⟩))
    go_ret
    exact ⟨rfl, hb8⟩
  · have hpk2 : Hid (HL ++ by_ data = PL) := by show _ = _; rw [hpk.out, if_neg h0, List.append_nil]
    rw [hpk2.out] at hO5
    go_wp2_with ((go_at_call 36; refine (bytes_any _ _ _ _ _ hO5).mono ?_; rintro e w' ⟨rfl, rfl⟩))
    go_ret
    exact ⟨rfl, hb5⟩
end Go.Proofs.Ytilobmebfeenfaa
