/- share: Carry. -/
import Derived.Test.YtaiekbhpgbmalaaShQ
namespace Go.Proofs.Ytaiekbhpgbmalaa
open Go.RowKit
set_option linter.unusedVariables false
set_option linter.unusedSimpArgs false
theorem carryS_set {ls : List SL} (h : ShOk ls) (k : Nat) (x : SL) (n : Int) (hx : ls[k]? = some x) : carryS ls x.p n = ls.set k ⟨x.p, x.w, x.c + n⟩ := by
  obtain ⟨hk, rfl⟩ := List.getElem?_eq_some_iff.1 hx
  refine List.ext_getElem (by simp [carryS]) (fun i h1 h2 => ?_)
  have hi : i < ls.length := by simpa [carryS] using h1
  simp only [carryS, List.getElem_map, List.getElem_set]
  have hp := List.pairwise_iff_getElem.1 h.up
  by_cases e : k = i
  · subst e; simp
  · rw [if_neg e, if_neg]
    intro e2
    rcases Nat.lt_or_gt_of_ne e with h3 | h3
    · have := hp k i hk hi h3; omega
    · have := hp i k hi hk h3; omega
theorem shV_set (ls : List SL) : ∀ (k : Nat) (x : SL) (c : Int), ls[k]? = some x → shV (ls.set k ⟨x.p, x.w, c⟩) = (shV ls).set (k * 3 + 2) (.int .i64 c) := by
  induction ls with
  | nil => intro k x c h; simp at h
  | cons y l ih =>
    intro k x c h
    cases k with
    | zero => simp at h; subst h; rfl
    | succ k =>
      have h2 := ih k x c (by simpa using h)
      have e : (k + 1) * 3 + 2 = (k * 3 + 2) + 1 + 1 + 1 := by omega
      rw [e]
      show Value.int .i64 y.p :: .int .i64 y.w :: .int .i64 y.c :: shV (l.set k ⟨x.p, x.w, c⟩) = _
      rw [h2]
      rfl
theorem carryS_ok {ls : List SL} (h : ShOk ls) (p n : Int) (hb : ∀ x ∈ ls, 0 ≤ x.c + n ∧ x.c + n ≤ 70368744177664) : ShOk (carryS ls p n) := by
  refine ⟨?_, fun y hy => ?_, fun y hy => ?_⟩
  · refine List.pairwise_map.2 (h.up.imp (fun {a b} hab => ?_))
    split <;> split <;> exact hab
  · obtain ⟨x, hx, rfl⟩ := List.mem_map.1 hy
    have := h.w0 x hx
    split <;> exact this
  · obtain ⟨x, hx, rfl⟩ := List.mem_map.1 hy
    have h1 := h.c0 x hx
    have h2 := hb x hx
    split
    · exact h2
    · exact h1
theorem posS_no {ls : List SL} {q : Int} {k : Nat} (ho : ShOk ls) (h : PosS ls q k false) : q ∉ ls.map (·.p) := by
  intro hm
  obtain ⟨x, hx, e⟩ := List.mem_map.1 hm
  obtain ⟨i, hi⟩ := List.getElem?_of_mem hx
  have e : x.p = q := e
  rcases Nat.lt_or_ge i k with h1 | h1
  · have := h.lo i x hi h1; omega
  · by_cases e2 : i = k
    · subst e2
      have := h.is.2 ⟨x, hi, e⟩
      cases this
    · have h3 : k < ls.length := by have := (List.getElem?_eq_some_iff.1 hi).1; omega
      obtain ⟨y, hy⟩ : ∃ y, ls[k]? = some y := ⟨_, List.getElem?_eq_getElem h3⟩
      have h4 := h.hi k y hy (Nat.le_refl _)
      have h5 := List.pairwise_iff_getElem.1 ho.up k i h3 (List.getElem?_eq_some_iff.1 hi).1 (by omega)
      rw [(List.getElem?_eq_some_iff.1 hy).2, (List.getElem?_eq_some_iff.1 hi).2] at h5
      omega
set_option maxRecDepth 100000 in
set_option maxHeartbeats 3200000 in
theorem shCarry_any (ls : List SL) (q n : Int) (gs B : Nat) (v : Value) (w : World) (hl : ls.length ≤ 1000) (ho : ShOk ls) (hn0 : 0 ≤ n) (hn : n ≤ 1073741824) (hgs : gs < B) (hB : B ≤ w.heap.size) (hS : At1 38 w gs v) (hR : w.ownsRow B 42 3 v ls.length (shV ls)) :
    Calls Try.prog 8 #[.pointer (some ⟨gs, 0, none⟩), .int .i64 q, .int .i64 n] w fun e w' => e = .returned (.bool (decide (q ∈ ls.map (·.p)))) ∧ At1 38 w' gs v ∧ w'.ownsRow B 42 3 v ls.length (shV (carryS ls q n)) ∧ Below B w w' ∧ (∀ k, k < w.heap.size → v.ownBlock ≠ some k → w'.heap[k]? = w.heap[k]?) ∧ w.heap.size ≤ w'.heap.size := by
  obtain ⟨a, c, rfl, hrd⟩ : ∃ a c, v = .slice a ls.length c ∧ ShRd w a ls := by
    by_cases h0 : 0 < ls.length
    · obtain ⟨g, c, e, hi⟩ := own_shIn hR h0
      exact ⟨_, c, e, .inr ⟨g, rfl, hi⟩⟩
    · have e : ls = [] := List.eq_nil_of_length_eq_zero (by omega)
      subst e
      rcases hR.2 with ⟨rfl, _⟩ | ⟨g, cap, cur, rfl, _⟩
      · exact ⟨_, _, rfl, .inl rfl⟩
      · exact ⟨_, _, rfl, .inl rfl⟩
  have HP := Lib.hid (shPlace_any ls q gs ls.length c a w hS.cell rfl hl hrd ho)
  have HO := Lib.hid ho
  have hs := hS.cell
  clear hrd
  go_enter Try.func8, Try.ntmps8
  go_wp2_with fail
  refine HP.out.mono ?_
  rintro e w5 ⟨k, f, rfl, hp, hb⟩
  have hS5 := hS.later hb
  have hR5 := own_laterS hR hb
  have hs5 := hS5.cell
  cases f with
  | false =>
    have hq := posS_no HO.out hp
    have HQ := Lib.hid (decide_eq_false hq)
    have HN := Lib.hid (carryS_none ls q n hq)
    clear hp hq
    go_wp2_with fail
    go_ret
    exact ⟨by rw [HQ.out]; rfl, hS5, by rw [HN.out]; exact hR5, hb.mono hB, fun k hk _ => hb.block k hk, hb.size⟩
  | true =>
    obtain ⟨x, hx, he⟩ := hp.is.1 rfl
    subst he
    have hk : k < ls.length := (List.getElem?_eq_some_iff.1 hx).1
    have HQ := Lib.hid (decide_eq_true (List.mem_map_of_mem (f := (·.p)) (List.mem_of_getElem? hx)))
    have HV : Hid (shV (carryS ls x.p n) = (shV ls).set (k * 3 + 2) (.int .i64 (x.c + n))) := Lib.hid (by rw [carryS_set HO.out k x n hx]; exact shV_set ls k x _ hx)
    have hc := HO.out.c0 x (List.mem_of_getElem? hx)
    have hw : IntKind.i64.wrap (x.c + n) = x.c + n := IntWalk.i64_in _ ⟨by omega, by omega⟩
    obtain ⟨g, cap, e, hin⟩ := own_shIn hR5 (by omega)
    cases e
    obtain ⟨_, _, hcc⟩ := hin k x hx
    have hfr : w5.frozen? ⟨g, k * 3 + 2, none⟩ = false := by
      rcases hR5.2 with ⟨h1, _⟩ | ⟨g', cap', cur, h', _, hg, _⟩
      · cases h1
      · simp only [Value.slice.injEq, Option.some.injEq, Addr.mk.injEq, and_true, true_and] at h'
        obtain ⟨rfl, _⟩ := h'
        simp [World.frozen?, hg]
    have i1 : (0 : Int) ≤ (k : Int) := by omega
    have i2 : (k : Int) < (ls.length : Int) := by omega
    have m1 : max n 0 = n := by omega
    have m2 : min n 1073741824 = n := by omega
    clear hp hx
    go_wp2_with fail
    go_ret
    obtain ⟨hst, hgr⟩ := hR5.stored (k * 3 + 2) (.int .i64 (x.c + n))
    have hgB : B ≤ g := (hR5.lt g rfl).1
    have hS6 : At1 38 (w5.setCell ⟨g, k * 3 + 2, none⟩ (.int .i64 (x.c + n))) gs (.slice (some ⟨g, 0, none⟩) ls.length c) := by
      unfold At1 at hS5 ⊢
      rw [hgr.block gs (lt_of_block hS5) (fun e => by cases e; omega)]
      exact hS5
    have hsz := hb.size
    refine ⟨by rw [HQ.out]; rfl, hS6, by rw [HV.out]; exact hst, (hb.mono hB).grown hgr (by omega) (fun k hk => by cases hk; exact hgB), fun k' hk' hne => ?_, Nat.le_trans hsz hgr.size⟩
    rw [hgr.block k' (by omega) (fun e => hne (by cases e; rfl))]
    exact hb.block k' hk'
end Go.Proofs.Ytaiekbhpgbmalaa
