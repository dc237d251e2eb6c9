/- nack: the law's told; Nack.Numbers. -/
import Derived.Test.YtagimjaojpdfiaaNkFewW
namespace Go.Proofs.Ytagimjaojpdfiaa
open Go.RowKit
set_option linter.unusedVariables false
/-- The document's pairs as values. -/
def prR (l : List (Int × Nat)) : List Value := l.flatMap fun p => [.int .i64 p.1, .int .i64 (p.2 : Int)]
theorem prR_snoc (l : List (Int × Nat)) (p : Int × Nat) : prR (l ++ [p]) = prR l ++ [.int .i64 p.1, .int .i64 (p.2 : Int)] := by simp [prR]
theorem row_below {base e size k : Nat} {W W' : World} {v : Value} {xs : List Value} (h : W.ownsRow base e size v k xs) (hx : Below W.heap.size W W') : W'.ownsRow base e size v k xs := by
  refine ⟨h.1, ?_⟩
  rcases h.2 with hz | ⟨g, cap, cur, rfl, h1, h2, h3⟩
  · exact .inl hz
  · exact .inr ⟨g, cap, cur, rfl, h1, (hx.block g (lt_of_block h2)).trans h2, h3⟩
theorem ownsRow_base_le {W : World} {base base' e size k : Nat} {v : Value} {xs : List Value} (h : W.ownsRow base e size v k xs) (hb : base' ≤ base) : W.ownsRow base' e size v k xs := by
  refine ⟨h.1, ?_⟩
  rcases h.2 with hz | ⟨g, cap, cur, rfl, h1, h2⟩
  · exact .inl hz
  · exact .inr ⟨g, cap, cur, rfl, Nat.le_trans hb h1, h2⟩
theorem infoPrR : (Try.prog.info? 143).map (fun i => (i.zero, i.size, i.bytes)) = some (some (.agg #[.int .i64 0, .int .i64 0]), 2, 16) := by kernel_rfl
theorem take_one {α : Type} (l : List α) (k : Nat) (h : k < l.length) (d : α) : l.take (k + 1) = l.take k ++ [l[k]?.getD d] := by
  rw [List.take_succ_eq_append_getElem h, List.getElem?_eq_getElem h]
  rfl
set_option maxRecDepth 100000 in
set_option maxHeartbeats 1600000 in
theorem nkTold_any (l : List (Int × Nat)) (a : Option Addr) (c : Nat) (w : World) (hr : RdP w a l) (hl : l.length ≤ 1000000) (hb : ∀ p ∈ l, 0 ≤ p.1 ∧ p.1 < 65536 ∧ p.2 < 65536) :
    Calls Try.prog 14 #[.slice a l.length c] w fun e w' => ∃ v, e = .returned v ∧ w'.ownsRow w.heap.size 143 2 v l.length (prR l) ∧ Below w.heap.size w w' := by
  obtain ⟨i0, hi, hz0, hz1, hz2⟩ := info_parts infoPrR
  go_enter Try.func14, Try.ntmps14
  go_wp2
  go_loopw [3, 8] (fun v i wr => ∃ k : Nat, k ≤ l.length ∧ i = .int .i64 k ∧ wr.ownsRow w.heap.size 143 2 v k (prR (l.take k)) ∧ Below w.heap.size w wr)
    (fun _ i _ => l.length - (intOf i).toNat)
  case atStart => exact ⟨0, Nat.zero_le _, rfl, World.ownsRow_nil _ _ _ _, Below.refl _ _⟩
  case round =>
    obtain ⟨k, hk, rfl, hrow, hbk⟩ := hrel
    by_cases hlt : k < l.length
    · obtain ⟨g, rfl, hg, hc0, hc1⟩ := (hr.later hbk).at hlt
      have HS := Lib.hid (take_one l k hlt (0, 0))
      have hmem : l[k]?.getD (0, 0) ∈ l := by rw [List.getElem?_eq_getElem hlt]; exact List.getElem_mem hlt
      obtain ⟨p0, p1, p2⟩ := hb _ hmem
      generalize l[k]?.getD (0, 0) = pr at hc0 hc1 HS p0 p1 p2
      obtain ⟨pid, bb⟩ := pr
      simp only at hc0 hc1 HS p0 p1 p2
      clear hr hb hmem
      have hcv : IntKind.i64.wrap pid = pid := IntWalk.i64_in _ ⟨by omega, by omega⟩
      have hcv2 : IntKind.i64.wrap (bb : Int) = (bb : Int) := IntWalk.i64_in _ ⟨by omega, by omega⟩
      have hba := hbk.alloc hbk.size (.cells #[.int .u16 pid, .int .u16 (bb : Int)] 131)
      have hX := heap_alloc_new wr (.cells #[.int .u16 pid, .int .u16 (bb : Int)] 131)
      have d0 : (wr.alloc (.cells #[.int .u16 pid, .int .u16 (bb : Int)] 131)).cell? ⟨wr.heap.size, 0, none⟩ = some (.int .u16 pid) := by have := cell_of_row _ _ 0 _ _ (0, 0) hX; exact this
      have d1 : (wr.alloc (.cells #[.int .u16 pid, .int .u16 (bb : Int)] 131)).cell? ⟨wr.heap.size, 1, none⟩ = some (.int .u16 (bb : Int)) := by have := cell_of_row _ _ 1 _ _ (0, 0) hX; exact this
      have hrowa := hrow.alloc (.cells #[.int .u16 pid, .int .u16 (bb : Int)] 131)
      have hss := hba.size
      go_upto_region 5 with fail
      generalize wr.alloc (.cells #[.int .u16 pid, .int .u16 (bb : Int)] 131) = w5 at hba d0 d1 hrowa hss ⊢
      generalize wr.heap.size = gp at d0 d1 ⊢
      clear hX hrow hc0 hc1
      go_wp2_with (at_builtin; refine append_rec rfl (.tmp 12) (.tmp 20) 32 rfl w.heap.size 143 i0 (.agg #[.int .i64 0, .int .i64 0]) 2 16 Try.underlying32 hi hz0 hz1 hz2 rfl (by decide) _ k (prR (l.take k)) rfl hrowa #[.int .i64 pid, .int .i64 (bb : Int)] rfl rfl ?d1 ?d2 ?d3 w.heap.size (Nat.le_refl _) hss hba ?_)
      case d1 => simp [Value.oneCell']
      case d2 => unfold maxLen; omega
      case d3 => omega
      intro v' w6 hown6 hb6 hg6
      clear hrowa d0 d1
      go_wp2
      go_roundw
      case rel => exact ⟨k + 1, by omega, by go_num, by rw [HS.out, prR_snoc]; simpa using hown6, hb6⟩
      case measure => simp [intOf]; omega
    · obtain rfl : k = l.length := by omega
      rw [List.take_length] at hrow
      go_wp2
      go_ret
      exact ⟨_, rfl, hrow, hbk⟩
/-- All the numbers that pairs name, one behind the other. -/
def catN (l : List (Int × Nat)) : List Int := l.flatMap fun p => nums p.1 p.2 16
theorem catN_snoc (l : List (Int × Nat)) (p : Int × Nat) : catN (l ++ [p]) = catN l ++ nums p.1 p.2 16 := by simp [catN]
theorem catN_len (l : List (Int × Nat)) : (catN l).length ≤ 17 * l.length := by
  induction l with
  | nil => simp [catN]
  | cons p l ih =>
    have e : catN (p :: l) = nums p.1 p.2 16 ++ catN l := by simp [catN]
    have h := nums_len p.1 p.2 16
    rw [e, List.length_append, List.length_cons]
    omega
theorem nums_wf (pid : Int) (b : Nat) (h0 : 0 ≤ pid) (h1 : pid < 65536) (y : Int) (h : y ∈ nums pid b 16) : 0 ≤ y ∧ y < 65536 := by
  rcases (nums_mem pid b y 16).1 h with rfl | ⟨i, _, _, rfl⟩
  · exact ⟨h0, h1⟩
  · exact nx_bd pid i
theorem catN_wf (l : List (Int × Nat)) (hb : ∀ p ∈ l, 0 ≤ p.1 ∧ p.1 < 65536 ∧ p.2 < 65536) (y : Int) (h : y ∈ catN l) : 0 ≤ y ∧ y < 65536 := by
  unfold catN at h
  rw [List.mem_flatMap] at h
  obtain ⟨p, hp, hy⟩ := h
  obtain ⟨h0, h1, _⟩ := hb p hp
  exact nums_wf p.1 p.2 h0 h1 y hy
theorem u16_wf {x : Int} (h : 0 ≤ x ∧ x < 65536) : (Lit.int .u16 x).wf = true := by simp [Lit.wf, IntKind.min, IntKind.max, IntKind.signed, IntKind.bits]; omega
end Go.Proofs.Ytagimjaojpdfiaa
