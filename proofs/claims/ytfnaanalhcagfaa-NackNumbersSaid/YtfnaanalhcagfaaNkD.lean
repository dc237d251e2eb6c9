/- nack: the law's told; Nack.Numbers. -/
import Derived.Test.YtfnaanalhcagfaaNkFewW
namespace Go.Proofs.Ytfnaanalhcagfaa
open Go.RowKit
set_option linter.unusedVariables false
/-- The document's pairs as values. -/
def prR (l : List (Int × Nat)) : List Value := l.flatMap fun p => [.int .i64 p.1, .int .i64 (p.2 : Int)]
theorem prR_snoc (l : List (Int × Nat)) (p : Int × Nat) : prR (l ++ [p]) = prR l ++ [.int .i64 p.1, .int .i64 (p.2 : Int)] := by simp [prR]
theorem row_below {base e size k : Nat} {W W' : World} {v : Value} {xs : List Value} (h : W.ownsRow base e size v k xs) (hx : Below W.heap.size W W') : W'.ownsRow base e size v k xs := by
  refine ⟨h.1, ?_⟩
  rcases h.2 with hz | ⟨g, cap, cur, rfl, h1, h2, h3⟩
  · exact .inl hz
  · exact .inr ⟨g, cap, cur, rfl, h1, (hx.block g (lt_of_block h2)).trans h2, h3⟩
theorem ownsRow_base_le {W : World} {base base' e size k : Nat} {v : Value} {xs : List Value} (h : W.ownsRow base e size v k xs) (hb : base' ≤ base) : W.ownsRow base' e size v k xs := by
  refine ⟨h.1, ?_⟩
  rcases h.2 with hz | ⟨g, cap, cur, rfl, h1, h2⟩
  · exact .inl hz
  · exact .inr ⟨g, cap, cur, rfl, Nat.le_trans hb h1, h2⟩
theorem infoPrR : (Try.prog.info? 79).map (fun i => (i.zero, i.size, i.bytes)) = some (some (.agg #[.int .i64 0, .int .i64 0]), 2, 16) := by kernel_rfl
theorem take_one {α : Type} (l : List α) (k : Nat) (h : k < l.length) (d : α) : l.take (k + 1) = l.take k ++ [l[k]?.getD d] := by
  rw [List.take_succ_eq_append_getElem h, List.getElem?_eq_getElem h]
  rfl
set_option maxRecDepth 100000 in
set_option maxHeartbeats 1600000 in
theorem nkTold_any (l : List (Int × Nat)) (a : Option Addr) (c : Nat) (w : World) (hr : RdP w a l) (hl : l.length ≤ 1000000) (hb : ∀ p ∈ l, 0 ≤ p.1 ∧ p.1 < 65536 ∧ p.2 < 65536) :
    Calls Try.prog 28 #[.slice a l.length c] w fun e w' => ∃ v, e = .returned v ∧ w'.ownsRow w.heap.size 79 2 v l.length (prR l) ∧ Below w.heap.size w w' := by
  obtain ⟨i0, hi, hz0, hz1, hz2⟩ := info_parts infoPrR
  go_enter Try.func28, Try.ntmps28
  go_wp2
  go_loopw [3, 8] (fun v i wr => ∃ k : Nat, k ≤ l.length ∧ i = .int .i64 k ∧ wr.ownsRow w.heap.size 79 2 v k (prR (l.take k)) ∧ Below w.heap.size w wr)
    (fun _ i _ => l.length - (intOf i).toNat)
  case atStart => exact ⟨0, Nat.zero_le _, rfl, World.ownsRow_nil _ _ _ _, Below.refl _ _⟩
  case round =>
    obtain ⟨k, hk, rfl, hrow, hbk⟩ := hrel
    by_cases hlt : k < l.length
    · obtain ⟨g, rfl, hg, hc0, hc1⟩ := (hr.later hbk).at hlt
      have HS := Lib.hid (take_one l k hlt (0, 0))
      have hmem : l[k]?.getD (0, 0) ∈ l := by rw [List.getElem?_eq_getElem hlt]; exact List.getElem_mem hlt
      obtain ⟨p0, p1, p2⟩ := hb _ hmem
      generalize l[k]?.getD (0, 0) = pr at hc0 hc1 HS p0 p1 p2
      obtain ⟨pid, bb⟩ := pr
      simp only at hc0 hc1 HS p0 p1 p2
      clear hr hb hmem
      have hcv : IntKind.i64.wrap pid = pid := IntWalk.i64_in _ ⟨by omega, by omega⟩
      have hcv2 : IntKind.i64.wrap (bb : Int) = (bb : Int) := IntWalk.i64_in _ ⟨by omega, by omega⟩
      have hba := hbk.alloc hbk.size (.cells #[.int .u16 pid, .int .u16 (bb : Int)] 75)
      have hX := heap_alloc_new wr (.cells #[.int .u16 pid, .int .u16 (bb : Int)] 75)
      have d0 : (wr.alloc (.cells #[.int .u16 pid, .int .u16 (bb : Int)] 75)).cell? ⟨wr.heap.size, 0, none⟩ = some (.int .u16 pid) := by have := cell_of_row _ _ 0 _ _ (0, 0) hX; exact this
      have d1 : (wr.alloc (.cells #[.int .u16 pid, .int .u16 (bb : Int)] 75)).cell? ⟨wr.heap.size, 1, none⟩ = some (.int .u16 (bb : Int)) := by have := cell_of_row _ _ 1 _ _ (0, 0) hX; exact this
      have hrowa := hrow.alloc (.cells #[.int .u16 pid, .int .u16 (bb : Int)] 75)
      have hss := hba.size
      go_upto_region 5 with fail
      generalize wr.alloc (.cells #[.int .u16 pid, .int .u16 (bb : Int)] 75) = w5 at hba d0 d1 hrowa hss ⊢
      generalize wr.heap.size = gp at d0 d1 ⊢
      clear hX hrow hc0 hc1
      go_wp2_with (at_builtin; refine append_rec rfl (.tmp 12) (.tmp 20) 62 rfl w.heap.size 79 i0 (.agg #[.int .i64 0, .int .i64 0]) 2 16 Try.underlying62 hi hz0 hz1 hz2 rfl (by decide) _ k (prR (l.take k)) rfl hrowa #[.int .i64 pid, .int .i64 (bb : Int)] rfl rfl ?d1 ?d2 ?d3 w.heap.size (Nat.le_refl _) hss hba ?_)
      case d1 => simp [Value.oneCell']
      case d2 => unfold maxLen; omega
      case d3 => omega
      intro v' w6 hown6 hb6 hg6
      clear hrowa d0 d1
      go_wp2
      go_roundw
      case rel => exact ⟨k + 1, by omega, by go_num, by rw [HS.out, prR_snoc]; simpa using hown6, hb6⟩
      case measure => simp [intOf]; omega
    · obtain rfl : k = l.length := by omega
      rw [List.take_length] at hrow
      go_wp2
      go_ret
      exact ⟨_, rfl, hrow, hbk⟩
/-- All the numbers that pairs name, one behind the other. -/
def catN (l : List (Int × Nat)) : List Int := l.flatMap fun p => nums p.1 p.2 16
theorem catN_snoc (l : List (Int × Nat)) (p : Int × Nat) : catN (l ++ [p]) = catN l ++ nums p.1 p.2 16 := by simp [catN]
theorem catN_len (l : List (Int × Nat)) : (catN l).length ≤ 17 * l.length := by
  induction l with
  | nil => simp [catN]
  | cons p l ih =>
    have e : catN (p :: l) = nums p.1 p.2 16 ++ catN l := by simp [catN]
    have h := nums_len p.1 p.2 16
    rw [e, List.length_append, List.length_cons]
    omega
theorem nums_wf (pid : Int) (b : Nat) (h0 : 0 ≤ pid) (h1 : pid < 65536) (y : Int) (h : y ∈ nums pid b 16) : 0 ≤ y ∧ y < 65536 := by
  rcases (nums_mem pid b y 16).1 h with rfl | ⟨i, _, _, rfl⟩
  · exact ⟨h0, h1⟩
  · exact nx_bd pid i
theorem catN_wf (l : List (Int × Nat)) (hb : ∀ p ∈ l, 0 ≤ p.1 ∧ p.1 < 65536 ∧ p.2 < 65536) (y : Int) (h : y ∈ catN l) : 0 ≤ y ∧ y < 65536 := by
  unfold catN at h
  rw [List.mem_flatMap] at h
  obtain ⟨p, hp, hy⟩ := h
  obtain ⟨h0, h1, _⟩ := hb p hp
  exact nums_wf p.1 p.2 h0 h1 y hy
theorem u16_wf {x : Int} (h : 0 ≤ x ∧ x < 65536) : (Lit.int .u16 x).wf = true := by simp [Lit.wf, IntKind.min, IntKind.max, IntKind.signed, IntKind.bits]; omega
set_option maxHeartbeats 1600000 in
theorem nackNumbers_any (l : List (Int × Nat)) (from_ about : Int) (a : Option Addr) (c : Nat) (w : World) (hr : RdP w a l) (hl : l.length ≤ 10000) (hb : ∀ p ∈ l, 0 ≤ p.1 ∧ p.1 < 65536 ∧ p.2 < 65536) :
    Calls Try.prog 32 #[.agg #[.int .u32 from_, .int .u32 about, .slice a l.length c]] w fun e w' => ∃ v, e = .returned v ∧ w'.ownsRow w.heap.size 71 1 v (dist (catN l)).length ((dist (catN l)).map (Value.int .u16)) ∧ Below w.heap.size w w' := by
  obtain ⟨i0, hi, hz0, hz1, hz2⟩ := info_parts info16k
  have hB1 : Below w.heap.size w (w.alloc (.cells #[.int .u32 from_, .int .u32 about, .slice a l.length c] 68)) := (Below.refl _ _).alloc (Nat.le_refl _) _
  have hX := heap_alloc_new w (.cells #[.int .u32 from_, .int .u32 about, .slice a l.length c] 68)
  have e2 : (w.alloc (.cells #[.int .u32 from_, .int .u32 about, .slice a l.length c] 68)).cell? ⟨w.heap.size, 2, none⟩ = some (.slice a l.length c) := by have := cell_of_row _ _ 2 _ _ (0, 0) hX; exact this
  go_enter Try.func32, Try.ntmps32
  go_upto_region 1 with fail
  generalize w.alloc (.cells #[.int .u32 from_, .int .u32 about, .slice a l.length c] 68) = w1 at hB1 e2 ⊢
  clear hX
  go_wp2_with fail
  go_loopw [3, 9] (fun v i wr => ∃ k : Nat, k ≤ l.length ∧ i = .int .i64 k ∧ wr.ownsRow w.heap.size 71 1 v (catN (l.take k)).length ((catN (l.take k)).map (Value.int .u16)) ∧ Below w.heap.size w wr)
    (fun _ i _ => l.length - (intOf i).toNat)
  case atStart => exact ⟨0, Nat.zero_le _, rfl, World.ownsRow_nil _ _ _ _, hB1⟩
  case round =>
    obtain ⟨k, hk, rfl, hrow, hbk⟩ := hrel
    by_cases hlt : k < l.length
    · obtain ⟨g, rfl, hg, hc0, hc1⟩ := (hr.later hbk).at hlt
      have HS := Lib.hid (take_one l k hlt (0, 0))
      have hmem : l[k]?.getD (0, 0) ∈ l := by rw [List.getElem?_eq_getElem hlt]; exact List.getElem_mem hlt
      obtain ⟨p0, p1, p2⟩ := hb _ hmem
      have hcl := catN_len (l.take k)
      rw [List.length_take] at hcl
      generalize l[k]?.getD (0, 0) = pr at hc0 hc1 HS p0 p1 p2
      obtain ⟨pid, bb⟩ := pr
      simp only at hc0 hc1 HS p0 p1 p2
      clear hr hb hmem
      have HN := Lib.hid (fun W => numbers_any pid bb p0 p1 p2 W)
      have hnp := nums_pos pid bb 16
      have hnl := nums_len pid bb 16
      have HC : Hid (catN (l.take (k + 1)) = catN (l.take k) ++ nums pid bb 16) := Lib.hid (by rw [HS.out, catN_snoc])
      generalize nums pid bb 16 = nm at HN HC hnp hnl
      generalize catN (l.take k) = cn at *
      have hba := hbk.alloc hbk.size (.cells #[.int .u16 pid, .int .u16 (bb : Int)] 75)
      have hX := heap_alloc_new wr (.cells #[.int .u16 pid, .int .u16 (bb : Int)] 75)
      have d0 : (wr.alloc (.cells #[.int .u16 pid, .int .u16 (bb : Int)] 75)).cell? ⟨wr.heap.size, 0, none⟩ = some (.int .u16 pid) := by have := cell_of_row _ _ 0 _ _ (0, 0) hX; exact this
      have d1 : (wr.alloc (.cells #[.int .u16 pid, .int .u16 (bb : Int)] 75)).cell? ⟨wr.heap.size, 1, none⟩ = some (.int .u16 (bb : Int)) := by have := cell_of_row _ _ 1 _ _ (0, 0) hX; exact this
      have hrowa := hrow.alloc (.cells #[.int .u16 pid, .int .u16 (bb : Int)] 75)
      have hss := hba.size
      go_wp2_with fail
      refine (HN.out _).mono ?_
      rintro e w7 ⟨v7, rfl, hrow7, hb7⟩
      obtain ⟨g7, c7, rfl, hc7, hg7, hcell7⟩ := own_cells hrow7 (by omega)
      have hrow8 := row_below hrowa hb7
      have hb8 := hba.trans (hb7.mono hss)
      have hs8 := hb8.size
      clear hrow7 hb7 hrow hrowa hX d0 d1 hc0 hc1 HN
      have hnews : ∀ j u, (nm.map (Value.int .u16))[j]? = some u → w7.cell? ((⟨g7, 0, none⟩ : Addr).add j) = some u := fun j u hu => by
        rw [Go.WideShapes.add_plain]
        simpa using hcell7 j u hu
      have HNEWS := Lib.hid hnews
      clear hcell7 hnews
      go_wp2_with (at_builtin; refine wpList_append_own _ rfl (.tmp 13) (.tmp 15) 58 rfl w.heap.size 71 i0 (.int .u16 0) 1 2 Try.underlying58 hi hz0 hz1 hz2 rfl (by decide) _ cn.length (cn.map (Value.int .u16)) rfl hrow8 ⟨g7, 0, none⟩ nm.length c7 (nm.map (Value.int .u16)) rfl (by simp) HNEWS.out (ints_oneCell .u16 nm) ?d4 ?d5 ?d6 ?_)
      case d4 => unfold maxLen; omega
      case d5 => omega
      case d6 => omega
      intro v' w8 hown8 hgrow8 _
      have hb9 := hb8.grown hgrow8 hs8 (fun j hj => (hrow8.lt j hj).1)
      have hown9 : w8.ownsRow w.heap.size 71 1 v' (catN (l.take (k + 1))).length ((catN (l.take (k + 1))).map (Value.int .u16)) := by rw [HC.out, List.length_append, List.map_append]; exact hown8
      clear hrow8 hown8 HNEWS
      go_wp2
      go_roundw
      case rel => exact ⟨k + 1, by omega, by go_num, hown9, hb9⟩
      case measure => simp [intOf]; omega
    · obtain rfl : k = l.length := by omega
      rw [List.take_length] at hrow
      have hwf := Lib.hid (catN_wf l hb)
      have hcl := catN_len l
      obtain ⟨cn, hcn⟩ : ∃ cn, catN l = cn := ⟨_, rfl⟩
      rw [hcn] at hrow hwf hcl
      have HCN := Lib.hid hcn
      clear hcn
      obtain ⟨a3, c3, rfl, _, _, _, hr3⟩ := own_reads hrow
      have HD := Lib.hid (distinct_any cn a3 c3 wr hr3 (by omega) (fun n hn => u16_wf (hwf.out n hn)))
      clear hr3 hrow hr hb
      go_wp2_with fail
      refine HD.out.mono ?_
      rintro e w9 ⟨v9, rfl, hrow9, hb9⟩
      have hbz := hbk.trans (hb9.mono hbk.size)
      have hz9 : w9.ownsRow w.heap.size 71 1 v9 (dist (catN l)).length ((dist (catN l)).map (Value.int .u16)) := by
        rw [HCN.out]
        exact ownsRow_base_le (base := wr.heap.size + 1) hrow9 (by have := hbk.size; omega)
      clear hrow9
      go_wp2
      go_ret
      exact ⟨_, rfl, hz9, hbz⟩
end Go.Proofs.Ytfnaanalhcagfaa
