/- history: Seqs. -/
import Derived.Test.YtaekefedmobfoaaHiD
namespace Go.Proofs.Ytaekefedmobfoaa
open Go.RowKit
set_option linter.unusedVariables false
set_option linter.unusedSimpArgs false
theorem info64h : (Try.prog.info? 3).map (fun i => (i.zero, i.size, i.bytes)) = some (some (.int .i64 0), 1, 8) := by kernel_rfl
theorem set_rest (A : List Value) (m : Nat) (z x : Value) : (A ++ List.replicate (m + 1) z).set A.length x = (A ++ [x]) ++ List.replicate m z := by simp [List.set_append, List.replicate_succ]
theorem madeInts (n : Nat) : (madeCells #[Value.int .i64 0] n).toList = List.replicate n (Value.int .i64 0) := by
  unfold madeCells
  apply List.ext_getElem?
  intro i
  by_cases h : i < n
  · simp [h, Nat.mod_one]
  · rw [List.getElem?_eq_none (by simp; omega), List.getElem?_eq_none (by simp; omega)]
theorem take_map_snoc {α β : Type} (f : α → β) (l : List α) (k : Nat) (x : α) (h : l[k]? = some x) : (l.take (k + 1)).map f = (l.take k).map f ++ [f x] := by
  rw [List.take_add_one, h]
  simp
/-- The numbers of records. -/
def hiS (l : List HR) : List Value := l.map (fun r => Value.int .i64 r.s)
theorem hiS_take (l : List HR) (k : Nat) (r : HR) (h : l[k]? = some r) : hiS (l.take (k + 1)) = hiS (l.take k) ++ [.int .i64 r.s] := take_map_snoc _ l k r h
theorem hiS_len (l : List HR) : (hiS l).length = l.length := by simp [hiS]
set_option maxRecDepth 100000 in
set_option maxHeartbeats 1600000 in
theorem hiSeqs_any {w : World} {base gh : Nat} {m t : Int} {v : Value} {l : List HR} {ag : Int} (h : HIn w base gh m t v l ag) :
    Calls Try.prog 32 #[.pointer (some ⟨gh, 0, none⟩)] w fun e w' => ∃ v', e = .returned v' ∧ OwnE w' w.heap.size 3 1 v' l.length (hiS l) ∧ Below w.heap.size w w' := by
  obtain ⟨i0, hi, hz0, hz1, hz2⟩ := info_parts info64h
  have hsm := h.small
  obtain ⟨a, cap, rfl, _, _, _, hrd⟩ := h.own.rdr
  have HR := Lib.hid (fun W (hb : Below w.heap.size w W) => hrd.later hb)
  have H4 := Lib.hid (fun W (hb : Below w.heap.size w W) => (h.at4.later hb).cells.2.2.1)
  have HT := Lib.hid (hiS_take l)
  have HL := Lib.hid (fun k => hiS_len (l.take k))
  obtain ⟨_, _, _, _⟩ := h.at4.cells
  clear h hrd
  go_enter Try.func32, Try.ntmps32
  go_wp2_with (at_make; refine wpList_make_full w rfl _ _ 30 rfl w.heap.size 3 i0 (.int .i64 0) 1 Try.underlying30 hi hz0 hz1 .i64 .i64 _ _ l.length rfl rfl rfl rfl ?_ ?_ (Nat.le_refl _) ?_)
  · omega
  · unfold maxLen; omega
  intro w2 hown hgrow
  rw [madeInts] at hown
  have hO2 := ownE_of hown
  have hb2 : Below w.heap.size w w2 := (Below.refl _ _).grown hgrow (Nat.le_refl _) (by intro k hk; cases hk)
  have hc2 := H4.out w2 hb2
  generalize hgs : w.heap.size = gs at hO2 hb2 ⊢
  have HG := Lib.hid hgs
  clear hgrow hown hgs
  go_wp2_with fail
  go_loopw [17] (fun i wr => ∃ k : Nat, k ≤ l.length ∧ i = .int .i64 k ∧ OwnE wr gs 3 1 (.slice (some ⟨gs, 0, none⟩) l.length l.length) l.length (hiS (l.take k) ++ List.replicate (l.length - k) (.int .i64 0)) ∧ Below gs w wr) (fun i _ => l.length - (intOf i).toNat)
  case atStart => exact ⟨0, Nat.zero_le _, rfl, hO2, hb2⟩
  case round =>
    obtain ⟨k, hk, rfl, hO, hb⟩ := hrel
    clear hO2 hb2 hc2
    by_cases hlt : k < l.length
    · obtain ⟨r, hr⟩ : ∃ r, l[k]? = some r := ⟨_, List.getElem?_eq_getElem hlt⟩
      obtain ⟨g, off, rfl, c0, c1, c2, c3⟩ := HR.out wr (by rw [HG.out]; exact hb) k r hr
      have HT1 := Lib.hid (HT.out k r hr)
      have hl1 := HL.out k
      rw [List.length_take, Nat.min_eq_left (by omega)] at hl1
      have hX := at4_new 64 wr wr.heap.size (.int .i64 r.s) (.int .i64 r.t) (.int .i64 r.p) (.string r.d) rfl
      have hO3 := hO.alloc (.cells #[.int .i64 r.s, .int .i64 r.t, .int .i64 r.p, .string r.d] 64)
      have hb3 := hb.alloc (show gs ≤ wr.heap.size by have := hb.size; have := HG.out; omega) (.cells #[.int .i64 r.s, .int .i64 r.t, .int .i64 r.p, .string r.d] 64)
      clear hr
      go_upto_region 5 with fail
      generalize wr.alloc (.cells #[.int .i64 r.s, .int .i64 r.t, .int .i64 r.p, .string r.d] 64) = w3 at hX hO3 hb3 ⊢
      generalize wr.heap.size = g3 at hX ⊢
      clear hO hb c0 c1 c2 c3
      obtain ⟨_, _, _, _⟩ := hX.cells
      obtain ⟨gz, oz, cz, ez, _, _, _, _, hcz⟩ := hO3.row (by omega)
      cases ez
      obtain ⟨hw1, hw2⟩ := hcz k ((hiS (l.take k) ++ List.replicate (l.length - k) (Value.int .i64 0))[k]'(by rw [List.length_append, List.length_replicate, hl1]; omega)) (List.getElem?_eq_getElem _)
      have hset := hO3.setAt k (.int .i64 r.s) (by rw [List.length_append, List.length_replicate, hl1]; omega)
      obtain ⟨q, hq⟩ : ∃ q, l.length - k = q + 1 := ⟨l.length - k - 1, by omega⟩
      have hset2 : OwnE (w3.setCell ⟨gs, 0 + k, none⟩ (.int .i64 r.s)) gs 3 1 (.slice (some ⟨gs, 0, none⟩) l.length l.length) l.length (hiS (l.take (k + 1)) ++ List.replicate (l.length - (k + 1)) (.int .i64 0)) := by
        have e : (hiS (l.take k) ++ List.replicate (l.length - k) (Value.int .i64 0)).set k (.int .i64 r.s) = hiS (l.take (k + 1)) ++ List.replicate (l.length - (k + 1)) (.int .i64 0) := by
          have h2 := set_rest (hiS (l.take k)) q (.int .i64 0) (.int .i64 r.s)
          rw [hl1] at h2
          rw [hq, h2, HT1.out]
          congr 2
          omega
        rw [← e]
        exact hset
      rw [Nat.zero_add] at hset2 hw1 hw2
      have hb4 := hb3.trans (((Only.refl gs w3).setCell k (.int .i64 r.s)).below (Nat.le_refl _))
      clear hset hcz hO3 hb3 hq
      generalize (hiS (l.take k) ++ List.replicate (l.length - k) (Value.int .i64 0))[k]'_ = old at hw1
      go_wp2_with fail
      go_roundw
      case rel => exact ⟨k + 1, by omega, by go_num, hset2, hb4⟩
      case measure => simp [intOf]; omega
    · obtain rfl : k = l.length := by omega
      rw [List.take_length, Nat.sub_self, List.replicate_zero, List.append_nil] at hO
      go_wp2_with fail
      go_ret
      exact ⟨_, rfl, by rw [HG.out]; exact hO, by rw [HG.out]; exact hb⟩
end Go.Proofs.Ytaekefedmobfoaa
