/- nack: a Nack's bytes (plain facts); Piece. -/
import Derived.Test.YtagimjaojpdfiaaNkAt
import Derived.Test.YtagimjaojpdfiaaPcC
import Derived.Deep.DeepCutAuto
namespace Go.Proofs.Ytagimjaojpdfiaa
open Go.RowKit
set_option linter.unusedVariables false
/-- The bytes of pairs. -/
def nkB (l : List (Int × Nat)) : List UInt8 := l.flatMap fun p => be p.1 2 ++ be (p.2 : Int) 2
theorem nkB_len (l : List (Int × Nat)) : (nkB l).length = 4 * l.length := by
  induction l with
  | nil => rfl
  | cons p l ih =>
    have e : nkB (p :: l) = (be p.1 2 ++ be (p.2 : Int) 2) ++ nkB l := by simp [nkB]
    rw [e]
    simp only [List.length_append, be_len, List.length_cons, ih]
    omega
theorem nkB_take (l : List (Int × Nat)) (k : Nat) (h : k < l.length) : nkB (l.take (k + 1)) = nkB (l.take k) ++ (be (l[k]?.getD (0, 0)).1 2 ++ be ((l[k]?.getD (0, 0)).2 : Int) 2) := by
  rw [List.take_add_one, List.getElem?_eq_getElem h]
  simp only [nkB, List.flatMap_append, Option.toList_some, List.flatMap_cons, List.flatMap_nil, List.append_nil, Option.getD_some]
/-- The document's piece of a Nack. -/
def nkPc (f b : Int) (l : List (Int × Nat)) : PC := if 1 ≤ l.length ∧ l.length ≤ 300 then ⟨1, 205, ofL (be f 4 ++ be b 4 ++ nkB l)⟩ else zeroPC
theorem rdO_at {W : World} {a : Option Addr} {l : List (Int × Nat)} (h : RdO W a l) {k : Nat} (hk : k < l.length) :
    ∃ g off, a = some ⟨g, off, none⟩ ∧ W.cell? ⟨g, off + k * 2, none⟩ = some (.int .u16 (l[k]?.getD (0, 0)).1) ∧ W.cell? ⟨g, off + k * 2 + 1, none⟩ = some (.int .u16 ((l[k]?.getD (0, 0)).2 : Int)) := by
  rcases h with rfl | ⟨g, off, rfl, hc⟩
  · simp at hk
  · obtain ⟨e0, e1⟩ := prV_at l k hk
    exact ⟨g, off, rfl, hc _ _ e0, hc _ _ e1⟩
set_option maxRecDepth 100000 in
set_option maxHeartbeats 3200000 in
theorem nkPiece_any (f b : Int) (l : List (Int × Nat)) (a : Option Addr) (c : Nat) (w : World) (hr : RdO w a l) (hl : l.length ≤ 1000) (hwf : ∀ p ∈ l, 0 ≤ p.1 ∧ p.1 < 65536 ∧ p.2 < 65536) :
    Calls Try.prog 12 #[.agg #[.int .u32 f, .int .u32 b, .slice a l.length c]] w fun e w' =>
      e = .returned (.agg #[.int .i64 (nkPc f b l).count, .int .i64 (nkPc f b l).kind, .string (nkPc f b l).body]) ∧ Below w.heap.size w w' := by
  obtain ⟨q, hq⟩ : ∃ q, nkPc f b l = q := ⟨_, rfl⟩
  rw [hq]
  have hqy : 1 ≤ l.length ∧ l.length ≤ 300 → Hid (q = ⟨1, 205, ofL (be f 4 ++ be b 4 ++ nkB l)⟩) := fun h => Lib.hid (by rw [← hq]; unfold nkPc; rw [if_pos h])
  have hqn : ¬ (1 ≤ l.length ∧ l.length ≤ 300) → Hid (q = zeroPC) := fun h => Lib.hid (by rw [← hq]; unfold nkPc; rw [if_neg h])
  clear hq
  have HR := Lib.hid (fun W (h : Below w.heap.size w W) (k : Nat) (hk : k < l.length) => rdO_at (hr.later h) hk)
  have HWF := Lib.hid (fun (k : Nat) (hk : k < l.length) => (show 0 ≤ (l[k]?.getD (0, 0)).1 ∧ (l[k]?.getD (0, 0)).1 < 65536 ∧ (l[k]?.getD (0, 0)).2 < 65536 from by rw [List.getElem?_eq_getElem hk]; exact hwf _ (List.getElem_mem hk)))
  clear hr hwf
  have hX1 := (atK_new 25 w #[.int .u32 f, .int .u32 b, .slice a l.length c]).alloc (.cells #[.int .i64 0, .int .i64 0, .string { data := #[] }] 28)
  have hY1 : PcAt ((w.alloc (.cells #[.int .u32 f, .int .u32 b, .slice a l.length c] 25)).alloc (.cells #[.int .i64 0, .int .i64 0, .string { data := #[] }] 28)) (w.heap.size + 1) ⟨0, 0, { data := #[] }⟩ := by
    have := pc_new (w.alloc (.cells #[.int .u32 f, .int .u32 b, .slice a l.length c] 25)) zeroPC
    rw [show (w.alloc (.cells #[.int .u32 f, .int .u32 b, .slice a l.length c] 25)).heap.size = w.heap.size + 1 from by simp] at this
    exact this
  have hb1 : Below w.heap.size w ((w.alloc (.cells #[.int .u32 f, .int .u32 b, .slice a l.length c] 25)).alloc (.cells #[.int .i64 0, .int .i64 0, .string { data := #[] }] 28)) := ((Below.refl _ _).alloc (Nat.le_refl _) _).alloc (by simp) _
  go_enter Try.func12, Try.ntmps12
  go_upto_region 1 with fail
  generalize ((w.alloc (.cells #[.int .u32 f, .int .u32 b, .slice a l.length c] 25)).alloc (.cells #[.int .i64 0, .int .i64 0, .string { data := #[] }] 28)) = w3 at hX1 hY1 hb1 ⊢
  generalize hgg : w.heap.size + 1 = g at hY1 ⊢
  generalize hgx : w.heap.size = gx at hX1 hb1 HR hgg ⊢
  have hgl : gx ≤ g := by omega
  have HG := Lib.hid hgx
  clear hgx hgg
  have hg3 := hY1.lt
  obtain ⟨x0, x1, x2⟩ := hX1.cells3
  by_cases hnone : ¬ (1 ≤ l.length ∧ l.length ≤ 300)
  · have hqv := (hqn hnone).out
    subst hqv
    obtain ⟨y0, y1, y2, _⟩ := pcAt_S hY1
    have f0 : w3.frozen? ⟨g, 0, none⟩ = false := by simp [World.frozen?, show w3.heap[g]? = _ from hY1]
    have f1 : w3.frozen? ⟨g, 1, none⟩ = false := by simp [World.frozen?, show w3.heap[g]? = _ from hY1]
    have f2 : w3.frozen? ⟨g, 2, none⟩ = false := by simp [World.frozen?, show w3.heap[g]? = _ from hY1]
    have hz : PcAt (((w3.setCell ⟨g, 0, none⟩ (.int .i64 0)).setCell ⟨g, 1, none⟩ (.int .i64 0)).setCell ⟨g, 2, none⟩ (.string { data := #[] })) g ⟨0, 0, { data := #[] }⟩ := block_setCell (i := 2) (u := .string { data := #[] }) (block_setCell (i := 1) (u := .int .i64 0) (block_setCell (i := 0) (u := .int .i64 0) hY1))
    have hbz := (((hb1.setCell (p := ⟨g, 0, none⟩) hgl (.int .i64 0)).setCell (p := ⟨g, 1, none⟩) hgl (.int .i64 0)).setCell (p := ⟨g, 2, none⟩) hgl (.string { data := #[] }))
    clear hqy hqn HR HWF
    have hfin : ∀ wz, PcAt wz g ⟨0, 0, { data := #[] }⟩ → Below gx w wz → wz = ((w3.setCell ⟨g, 0, none⟩ (.int .i64 0)).setCell ⟨g, 1, none⟩ (.int .i64 0)).setCell ⟨g, 2, none⟩ (.string { data := #[] }) → True := fun _ _ _ _ => trivial
    clear hfin
    by_cases hz0 : l.length = 0
    · rw [hz0] at x2 ⊢
      go_wp2
      generalize ((w3.setCell ⟨g, 0, none⟩ (.int .i64 0)).setCell ⟨g, 1, none⟩ (.int .i64 0)).setCell ⟨g, 2, none⟩ (.string { data := #[] }) = wz at hz hbz ⊢
      obtain ⟨d0, d1, d2, _⟩ := pcAt_S hz
      refine bodyPost_ret (v := .agg #[.int .i64 0, .int .i64 0, .string { data := #[] }]) (by simp [results, Try.results12, go_sem, d0, d1, d2]) rfl ⟨rfl, by rw [HG.out]; exact hbz⟩
    · have hz1 : 300 < l.length := by omega
      generalize l.length = n at x2 hz0 hz1 hl hnone ⊢
      have hb0 : ((n : Int) == 0) = false := by simp; omega
      clear hnone
      go_wp2
      generalize ((w3.setCell ⟨g, 0, none⟩ (.int .i64 0)).setCell ⟨g, 1, none⟩ (.int .i64 0)).setCell ⟨g, 2, none⟩ (.string { data := #[] }) = wz at hz hbz ⊢
      obtain ⟨d0, d1, d2, _⟩ := pcAt_S hz
      refine bodyPost_ret (v := .agg #[.int .i64 0, .int .i64 0, .string { data := #[] }]) (by simp [results, Try.results12, go_sem, d0, d1, d2]) rfl ⟨rfl, by rw [HG.out]; exact hbz⟩
  have hsome : 1 ≤ l.length ∧ l.length ≤ 300 := by omega
  obtain ⟨hs1, hs2⟩ := hsome
  have HQ := hqy ⟨hs1, hs2⟩
  clear hqy hqn hnone
  have hb0 : ((l.length : Int) == 0) = false := by rw [beq_eq_false_iff_ne]; omega
  have hxg : gx < w3.heap.size := hX1.lt
  have hO := out_new w3 w3.heap.size (Nat.le_refl _)
  have hY4 := hY1.alloc (.cells #[.slice none 0 0] 137)
  have hX4 := hX1.alloc (.cells #[.slice none 0 0] 137)
  have hbb4 := hb1.alloc (by omega) (.cells #[.slice none 0 0] 137)
  have hw4 : Hid (w3.heap.size + 1 = (w3.alloc (.cells #[.slice none 0 0] 137)).heap.size) := Lib.hid (by simp)
  go_wp2_with fail
  generalize w3.alloc (.cells #[.slice none 0 0] 137) = w4 at hO hY4 hX4 hbb4 hw4 ⊢
  obtain ⟨bo, hbo⟩ : ∃ bo, w3.heap.size = bo := ⟨_, rfl⟩
  rw [hbo] at hO hg3 hw4 hxg ⊢
  clear hbo hY1 hb1 hX1 x0 x1 x2
  refine (u32_lit bo bo _ [] [f, b] #[.int .u32 f, .int .u32 b] 2 (bo + 1) w4 hw4.out hO rfl rfl (by simp) (by simp)).mono ?_
  rintro e w5 ⟨rfl, v5, hO5, hb5, ho5⟩
  have hY5 := hY4.others (by omega) ho5
  have hX5 : AtK 25 w5 gx #[.int .u32 f, .int .u32 b, .slice a l.length c] := hX4.others (by decide) (by omega) ho5
  have hbb5 : Below gx w w5 := hbb4.trans (hb5.mono (by omega))
  rw [List.nil_append, bes_two] at hO5
  clear hY4 hX4 hbb4 hO hb5 ho5 hw4
  obtain ⟨x0, x1, x2⟩ := hX5.cells3
  have hst : Hid (be f 4 ++ be b 4 ++ nkB (l.take 0) = be f 4 ++ be b 4) := Lib.hid (by simp [nkB])
  have hstep : Hid (∀ k, k < l.length → be f 4 ++ be b 4 ++ nkB (l.take k) ++ bes [(l[k]?.getD (0, 0)).1, ((l[k]?.getD (0, 0)).2 : Int)] 2 = be f 4 ++ be b 4 ++ nkB (l.take (k + 1))) := Lib.hid (fun k hk => by rw [bes_two, nkB_take l k hk, List.append_assoc (be f 4 ++ be b 4)])
  have hlen : Hid (∀ k, k ≤ l.length → (be f 4 ++ be b 4 ++ nkB (l.take k)).length ≤ 1000000) := Lib.hid (fun k hk => by simp only [List.length_append, be_len, nkB_len, List.length_take]; omega)
  have hfin : Hid (be f 4 ++ be b 4 ++ nkB (l.take l.length) = be f 4 ++ be b 4 ++ nkB l) := Lib.hid (by rw [List.take_length])
  go_wp2_with fail
  go_loopw [27] (fun i wr => ∃ (k : Nat) (v : Value), k ≤ l.length ∧ i = .int .i64 k ∧ PcAt wr g ⟨0, 0, { data := #[] }⟩ ∧ OutAt wr bo bo v (be f 4 ++ be b 4 ++ nkB (l.take k)) ∧ Below gx w wr) (fun i _ => l.length - (intOf i).toNat)
  case atStart => exact ⟨0, v5, Nat.zero_le _, rfl, hY5, by rw [hst.out]; exact hO5, hbb5⟩
  case round =>
    obtain ⟨k, v7, hk, rfl, hY7, hO7, hbb7⟩ := hrel
    clear hY5 hO5 hbb5 hX5 x0 x1 x2
    have hgo : gx ≤ bo := by omega
    by_cases hlt : k < l.length
    · obtain ⟨ab, off, rfl, e0, e1⟩ := HR.out _ hbb7 k hlt
      obtain ⟨z0, z1, z2⟩ := HWF.out k hlt
      have HK := Lib.hid (hstep.out k hlt)
      have HL := Lib.hid (hlen.out k (by omega))
      generalize l[k]?.getD (0, 0) = p at e0 e1 z0 z1 z2 HK
      obtain ⟨pid, blp⟩ := p
      simp only at e0 e1 z0 z1 z2
      generalize be f 4 ++ be b 4 ++ nkB (l.take k) = LK at hO7 HK HL
      have i1 := (IntWalk.i64_in pid ⟨by omega, by omega⟩)
      have i2 := (IntWalk.i64_in (blp : Int) ⟨by omega, by omega⟩)
      have hgb : wr.heap.size ≠ bo := by have := hO7.lt; omega
      have hO8 := hO7.alloc (.cells #[.int .u16 pid, .int .u16 (blp : Int)] 131)
      have hY8 := hY7.alloc (.cells #[.int .u16 pid, .int .u16 (blp : Int)] 131)
      have hX8 := atK_new 131 wr #[.int .u16 pid, .int .u16 (blp : Int)]
      have hbb8 := hbb7.alloc (by have := hY7.lt; omega) (.cells #[.int .u16 pid, .int .u16 (blp : Int)] 131)
      clear hO7 hY7 hbb7
      go_upto_region 7 with fail
      generalize wr.alloc (.cells #[.int .u16 pid, .int .u16 (blp : Int)] 131) = w8 at hO8 hY8 hX8 hbb8 ⊢
      generalize wr.heap.size = ge at hX8 hgb ⊢
      clear e0 e1
      obtain ⟨e0, e1⟩ := hX8.cells2
      go_wp2_with fail
      refine (u16_lit bo bo v7 LK [pid, (blp : Int)] #[.int .i64 pid, .int .i64 (blp : Int)] 2 _ w8 rfl hO8 rfl rfl (by have := HL.out; simp; omega) (by simp)).mono ?_
      rintro e w12 ⟨rfl, v12, hO12, hb12, ho12⟩
      rw [HK.out] at hO12
      have hY12 : PcAt w12 g ⟨0, 0, { data := #[] }⟩ := hY8.others (by omega) ho12
      have hbb12 : Below gx w w12 := hbb8.trans (hb12.mono hgo)
      clear hY8 hO8 hbb8 hb12 ho12 e0 e1
      go_wp2
      go_roundw
      case rel => exact ⟨k + 1, v12, by omega, by go_num, hY12, hO12, hbb12⟩
      case measure => simp [intOf]; omega
    · obtain rfl : k = l.length := by omega
      rw [hfin.out] at hO7
      clear hst hstep hlen hfin hlt
      have HBy := Lib.hid (bytes_any bo bo v7 _ wr hO7)
      generalize ofL (be f 4 ++ be b 4 ++ nkB l) = RS at HQ HBy
      obtain ⟨y0, y1, y2, _⟩ := pcAt_S hY7
      have f0 : wr.frozen? ⟨g, 0, none⟩ = false := by simp [World.frozen?, show wr.heap[g]? = _ from hY7]
      have f1 : wr.frozen? ⟨g, 1, none⟩ = false := by simp [World.frozen?, show wr.heap[g]? = _ from hY7]
      have f2 : wr.frozen? ⟨g, 2, none⟩ = false := by simp [World.frozen?, show wr.heap[g]? = _ from hY7]
      have hz : PcAt (((wr.setCell ⟨g, 0, none⟩ (.int .i64 1)).setCell ⟨g, 1, none⟩ (.int .i64 205)).setCell ⟨g, 2, none⟩ (.string RS)) g ⟨1, 205, RS⟩ := block_setCell (i := 2) (u := .string RS) (block_setCell (i := 1) (u := .int .i64 205) (block_setCell (i := 0) (u := .int .i64 1) hY7))
      have hbz := (((hbb7.setCell (p := ⟨g, 0, none⟩) hgl (.int .i64 1)).setCell (p := ⟨g, 1, none⟩) hgl (.int .i64 205)).setCell (p := ⟨g, 2, none⟩) hgl (.string RS))
      go_wp2_with fail
      refine HBy.out.mono ?_
      rintro e w' ⟨rfl, rfl⟩
      go_wp2
      generalize ((wr.setCell ⟨g, 0, none⟩ (.int .i64 1)).setCell ⟨g, 1, none⟩ (.int .i64 205)).setCell ⟨g, 2, none⟩ (.string RS) = wz at hz hbz ⊢
      obtain ⟨d0, d1, d2, _⟩ := pcAt_S hz
      refine bodyPost_ret (v := .agg #[.int .i64 1, .int .i64 205, .string RS]) (by simp [results, Try.results12, go_sem, d0, d1, d2]) rfl ⟨by rw [HQ.out], by rw [HG.out]; exact hbz⟩
end Go.Proofs.Ytagimjaojpdfiaa
