/- pen.Out: what its calls answer. -/
import Derived.Test.YtilobmebfeenfaaPenO
namespace Go.Proofs.Ytilobmebfeenfaa
open Go.RowKit
set_option linter.unusedVariables false
set_option maxHeartbeats 800000 in
theorem writeU_any (B b : Nat) (v : Value) (L : List UInt8) (size : Nat) (zs : List Int) (a : Option Addr) (c n : Nat) (w : World) (hO : OutAt w B b v L) (h1 : 1 ≤ size) (h4 : size ≤ 4) (hn : n = zs.length)
    (hr : ∀ w', Below B w w' → Others b w w' → Reads .u32 w' a zs) (hl : zs.length ≤ 1099511627776) (hL : L.length + zs.length * size ≤ 1099511627776) :
    Calls Try.prog 72 #[.pointer (some ⟨b, 0, none⟩), .int .i64 (size : Int), .slice a n c] w fun e w' =>
      e = .returned (.pointer (some ⟨b, 0, none⟩)) ∧ ∃ v', OutAt w' B b v' (L ++ bes zs size) ∧ Below B w w' ∧ Others b w w' := by
  subst hn
  go_enter Try.func72, Try.ntmps72
  go_wp2_with ((go_at_call 61; refine (orNew_any _ _).mono ?_; rintro e w' ⟨rfl, rfl⟩))
  go_loopw [14] (fun i wr => ∃ k : Nat, k ≤ zs.length ∧ i = .int .i64 k ∧ ∃ v', OutAt wr B b v' (L ++ bes (zs.take k) size) ∧ Below B w wr ∧ Others b w wr) (fun i _ => zs.length - (intOf i).toNat)
  case atStart => exact ⟨0, Nat.zero_le _, rfl, v, by simpa [bes] using hO, Below.refl _ _, Others.refl _ _⟩
  case round =>
    obtain ⟨k, hk, rfl, v1, hO1, hb1, ho1⟩ := hrel
    by_cases hlt : k < zs.length
    · obtain ⟨ab, off, rfl, hcell⟩ := (hr _ hb1 ho1).at hlt
      have hts := Lib.hid (bes_take_succ zs size k hlt)
      generalize zs[k]?.getD 0 = x at hcell hts
      have hlen : (L ++ bes (zs.take k) size).length + size ≤ 1099511627776 := by
        have e : (k + 1) * size ≤ zs.length * size := Nat.mul_le_mul_right _ hlt
        rw [List.length_append, bes_len, List.length_take, Nat.min_eq_left hk]
        rw [Nat.add_mul, Nat.one_mul] at e
        omega
      generalize bes (zs.take k) size = M at hts hO1 hlen
      clear hO hr
      go_wp2
      obtain ⟨wo, rfl⟩ : ∃ wo : World, wo = wr := ⟨_, rfl⟩
      go_loopw [19] (fun i wi => ∃ j : Nat, j ≤ size ∧ i = .int .i64 j ∧ ∃ v', OutAt wi B b v' (L ++ M ++ beP x size j) ∧ Below B w wi ∧ Others b w wi) (fun i _ => size - (intOf i).toNat)
      case atStart => exact ⟨0, by omega, rfl, v1, by simpa [beP, List.append_assoc] using hO1, hb1, ho1⟩
      case round =>
        obtain ⟨j, hj, rfl, v2, hO2, hb2, ho2⟩ := hrel
        clear hO1 hb1 ho1 hcell
        by_cases hlt2 : j < size
        · have hbn := Lib.hid (byte_num x size j hlt2 h4)
          have hbs : Hid (L ++ M ++ beP x size (j + 1) = (L ++ M ++ beP x size j) ++ [UInt8.ofNat ((x / 2 ^ (8 * (size - 1 - j))) % 256).toNat]) := by show _ = _; rw [beP_succ, List.append_assoc (L ++ M)]
          generalize UInt8.ofNat ((x / 2 ^ (8 * (size - 1 - j))) % 256).toNat = u at hbn hbs
          have hc0 := cell_of_one hO2.1
          have hf0 := free_of_one hO2.1
          have hbl := hO2.lt
          have hlen2 : (L ++ M ++ beP x size j).length + 1 ≤ 1099511627776 := by rw [List.length_append, beP_len]; omega
          generalize L ++ M ++ beP x size j = A at hbs hO2 hlen2
          obtain ⟨ad2, c2, rfl⟩ := own_slice hO2.2.2
          have e1 : IntKind.i64.wrap ((size : Int) - 1) = (size : Int) - 1 := IntWalk.i64_in _ ⟨by omega, by omega⟩
          have e2 : IntKind.i64.wrap ((size : Int) - 1 - (j : Int)) = (size : Int) - 1 - (j : Int) := IntWalk.i64_in _ ⟨by omega, by omega⟩
          have e3 : IntKind.i64.wrap (8 * ((size : Int) - 1 - (j : Int))) = 8 * ((size : Int) - 1 - (j : Int)) := IntWalk.i64_in _ ⟨by omega, by omega⟩
          have e4 : (0 : Int) ≤ 8 * ((size : Int) - 1 - (j : Int)) := by omega
          go_wp2
          go_region_law (refine step_out rfl (.tmp 26) (.tmp 35) rfl B b _ A u _ hbn hO2 hlen2 rfl rfl ?_; intro ad3 c3 w3 hg3 hc3 hf3)
          all_goals
            obtain ⟨hO4, hb4, ho4⟩ := hg3.out.stored
            rw [← hbs.out] at hO4
            clear hg3 hc3 hf3 hc0 hf0 e1 e2 e3 e4 hbn hbs hO2
            go_wp2
            go_roundw
            case rel => exact ⟨j + 1, by omega, by go_num, _, hO4, hb2.trans hb4, ho2.trans ho4⟩
            case measure => simp [intOf]; omega
        · obtain rfl : j = size := by omega
          go_wp2
          go_roundw
          case rel => exact ⟨k + 1, by omega, by go_num, _, by rw [hts.out, ← List.append_assoc]; exact hO2, hb2, ho2⟩
          case measure => simp [intOf]; omega
    · obtain rfl : k = zs.length := by omega
      go_wp2
      go_ret
      exact ⟨rfl, v1, by rw [List.take_length] at hO1; exact hO1, hb1, ho1⟩
/-- A slice just laid, of numbers, stays as it is while an Out is written. -/
theorem lit_reads {k : IntKind} {w : World} {g b : Nat} {cs : Array Value} {T : TypeId} {zs : List Int} (h : w.heap[g]? = some (.cells cs T (0, 0))) (hc : cs.toList = zs.map (Value.int k)) (hg : g ≠ b) (hT : T ≠ 5) :
    ∀ w', Others b w w' → Reads k w' (some ⟨g, 0, none⟩) zs := by
  intro w' ho
  have h' := ho g _ h hg (fun cur p e => by simp at e; exact hT e.2.1)
  refine Or.inr ⟨g, 0, rfl, fun i hi => ?_⟩
  rw [Nat.zero_add, cell_of_row w' g i cs T (0, 0) h', ← Array.getElem?_toList, hc]
  simp [hi]
theorem lit_readsT {w : World} {g b : Nat} {cs : Array Value} {T : TypeId} {zs : List ByteArray} (h : w.heap[g]? = some (.cells cs T (0, 0))) (hc : cs.toList = zs.map Value.string) (hg : g ≠ b) (hT : T ≠ 5) :
    ∀ w', Others b w w' → ReadsT w' (some ⟨g, 0, none⟩) zs := by
  intro w' ho
  have h' := ho g _ h hg (fun cur p e => by simp at e; exact hT e.2.1)
  refine Or.inr ⟨g, 0, rfl, fun i hi => ?_⟩
  rw [Nat.zero_add, cell_of_row w' g i cs T (0, 0) h', ← Array.getElem?_toList, hc]
  simp [hi]
/-- What a call that writes leaves. -/
def Wrote (B b : Nat) (L : List UInt8) (w : World) (e : Ending) (w' : World) : Prop :=
  e = .returned (.pointer (some ⟨b, 0, none⟩)) ∧ ∃ v', OutAt w' B b v' L ∧ Below B w w' ∧ Others b w w'
theorem writeI_at (S : Int) (B b : Nat) (v : Value) (L : List UInt8) (size : Nat) (zs : List Int) (a : Option Addr) (c n : Nat) (w : World) (hS : S = (size : Int)) (hO : OutAt w B b v L) (h1 : 1 ≤ size) (h4 : size ≤ 4) (hn : n = zs.length)
    (hr : ∀ w', Below B w w' → Others b w w' → Reads .i64 w' a zs) (hl : zs.length ≤ 1099511627776) (hL : L.length + zs.length * size ≤ 1099511627776) :
    Calls Try.prog 71 #[.pointer (some ⟨b, 0, none⟩), .int .i64 S, .slice a n c] w (Wrote B b (L ++ bes zs size) w) := by
  rw [hS]
  exact writeI_any B b v L size zs a c n w hO h1 h4 hn hr hl hL
theorem writeU_at (S : Int) (B b : Nat) (v : Value) (L : List UInt8) (size : Nat) (zs : List Int) (a : Option Addr) (c n : Nat) (w : World) (hS : S = (size : Int)) (hO : OutAt w B b v L) (h1 : 1 ≤ size) (h4 : size ≤ 4) (hn : n = zs.length)
    (hr : ∀ w', Below B w w' → Others b w w' → Reads .u32 w' a zs) (hl : zs.length ≤ 1099511627776) (hL : L.length + zs.length * size ≤ 1099511627776) :
    Calls Try.prog 72 #[.pointer (some ⟨b, 0, none⟩), .int .i64 S, .slice a n c] w (Wrote B b (L ++ bes zs size) w) := by
  rw [hS]
  exact writeU_any B b v L size zs a c n w hO h1 h4 hn hr hl hL
theorem u8_any (B b : Nat) (v : Value) (L : List UInt8) (zs : List Int) (a : Option Addr) (c n : Nat) (w : World) (hO : OutAt w B b v L) (hn : n = zs.length)
    (hr : ∀ w', Below B w w' → Others b w w' → Reads .i64 w' a zs) (hl : zs.length ≤ 1099511627776) (hL : L.length + zs.length * 1 ≤ 1099511627776) :
    Calls Try.prog 58 #[.pointer (some ⟨b, 0, none⟩), .slice a n c] w (Wrote B b (L ++ bes zs 1) w) := by
  subst hn
  go_enter Try.func58, Try.ntmps58
  go_wp2_with ((go_at_call 71; refine (writeI_at 1 B b v L 1 zs a c _ _ rfl hO (by decide) (by decide) rfl hr hl hL).mono ?_; rintro e w' ⟨rfl, hx⟩))
  go_ret
  exact ⟨rfl, hx⟩
theorem u16_any (B b : Nat) (v : Value) (L : List UInt8) (zs : List Int) (a : Option Addr) (c n : Nat) (w : World) (hO : OutAt w B b v L) (hn : n = zs.length)
    (hr : ∀ w', Below B w w' → Others b w w' → Reads .i64 w' a zs) (hl : zs.length ≤ 1099511627776) (hL : L.length + zs.length * 2 ≤ 1099511627776) :
    Calls Try.prog 59 #[.pointer (some ⟨b, 0, none⟩), .slice a n c] w (Wrote B b (L ++ bes zs 2) w) := by
  subst hn
  go_enter Try.func59, Try.ntmps59
  go_wp2_with ((go_at_call 71; refine (writeI_at 2 B b v L 2 zs a c _ _ rfl hO (by decide) (by decide) rfl hr hl hL).mono ?_; rintro e w' ⟨rfl, hx⟩))
  go_ret
  exact ⟨rfl, hx⟩
theorem u32_any (B b : Nat) (v : Value) (L : List UInt8) (zs : List Int) (a : Option Addr) (c n : Nat) (w : World) (hO : OutAt w B b v L) (hn : n = zs.length)
    (hr : ∀ w', Below B w w' → Others b w w' → Reads .u32 w' a zs) (hl : zs.length ≤ 1099511627776) (hL : L.length + zs.length * 4 ≤ 1099511627776) :
    Calls Try.prog 60 #[.pointer (some ⟨b, 0, none⟩), .slice a n c] w (Wrote B b (L ++ bes zs 4) w) := by
  subst hn
  go_enter Try.func60, Try.ntmps60
  go_wp2_with ((go_at_call 72; refine (writeU_at 4 B b v L 4 zs a c _ _ rfl hO (by decide) (by decide) rfl hr hl hL).mono ?_; rintro e w' ⟨rfl, hx⟩))
  go_ret
  exact ⟨rfl, hx⟩
theorem strCells_by (s : ByteArray) : Lib.strCells s = (by_ s).map u8v := rfl
theorem cat_len (zs : List ByteArray) (k : Nat) : (cat (zs.take k)).length ≤ (cat zs).length := by
  have h : cat zs = cat (zs.take k) ++ cat (zs.drop k) := by
    unfold cat
    rw [← List.flatten_append, ← List.map_append, List.take_append_drop]
  rw [h, List.length_append]; omega
set_option maxHeartbeats 800000 in
theorem outRaw_any (B b : Nat) (v : Value) (L : List UInt8) (zs : List ByteArray) (a : Option Addr) (c n : Nat) (w : World) (hO : OutAt w B b v L) (hn : n = zs.length)
    (hr : ∀ w', Below B w w' → Others b w w' → ReadsT w' a zs) (hl : zs.length ≤ 1099511627776) (hL : L.length + (cat zs).length ≤ 1099511627776) :
    Calls Try.prog 34 #[.pointer (some ⟨b, 0, none⟩), .slice a n c] w (Wrote B b (L ++ cat zs) w) := by
  subst hn
  obtain ⟨i0, hi, hz0, hz1, hz2⟩ := info_parts info8
  go_enter Try.func34, Try.ntmps34
  go_wp2_with ((go_at_call 61; refine (orNew_any _ _).mono ?_; rintro e w' ⟨rfl, rfl⟩))
  go_loopw [11] (fun i wr => ∃ k : Nat, k ≤ zs.length ∧ i = .int .i64 k ∧ ∃ v', OutAt wr B b v' (L ++ cat (zs.take k)) ∧ Below B w wr ∧ Others b w wr) (fun i _ => zs.length - (intOf i).toNat)
  case atStart => exact ⟨0, Nat.zero_le _, rfl, v, by simpa [cat] using hO, Below.refl _ _, Others.refl _ _⟩
  case round =>
    obtain ⟨k, hk, rfl, v1, hO1, hb1, ho1⟩ := hrel
    by_cases hlt : k < zs.length
    · obtain ⟨ab, off, rfl, hcell⟩ := (hr _ hb1 ho1).at hlt
      have hts := Lib.hid (cat_take_succ zs k hlt)
      have hle := cat_len zs (k + 1)
      rw [hts.out, List.length_append, by_len] at hle
      generalize zs[k]?.getD ByteArray.empty = x at hcell hts hle
      have hlen : (L ++ cat (zs.take k)).length + x.size ≤ 1099511627776 := by rw [List.length_append]; omega
      have hres : Hid (L ++ cat (zs.take (k + 1)) = (L ++ cat (zs.take k)) ++ by_ x) := by show _ = _; rw [hts.out, List.append_assoc]
      generalize L ++ cat (zs.take k) = A at hO1 hlen hres
      clear hO hr hts hle
      obtain ⟨ad1, c1, rfl⟩ := own_slice hO1.2.2
      have hc0 := cell_of_one hO1.1
      have hf0 := free_of_one hO1.1
      have hbl := hO1.lt
      have hBb := hO1.2.1
      go_wp2_with (refine Lib.wpList_append_own_string (P := Try.prog) _ rfl (.tmp 19) (.tmp 20) 84 9 rfl B 5 i0 Try.underlying84 Try.underlying9 hi hz0 hz1 hz2 _ A.length (A.map u8v) rfl hO1.2.2 x rfl ?d1 ?d2 ?d3 ?_)
      case d1 => unfold maxLen; omega
      case d2 => omega
      case d3 => omega
      intro v' w1 hown hgrow _
      obtain ⟨ad2, c2, rfl⟩ := own_slice hown
      have hblk : w1.heap[b]? = some (.cells #[.slice ad1 A.length c1] 86 (0, 0)) := by rw [hgrow.block b hbl (row_bytes hO1.2.2 hO1.1 (pen_ne _ _))]; exact hO1.1
      have hG : OutGrown w w1 B b (.slice ad1 A.length c1) (.slice ad2 (A.length + x.size) c2) (A ++ by_ x) := by
        refine ⟨hblk, hBb, ?_, hb1.grown hgrow (by omega) (fun k hk => (hO1.2.2.lt k hk).1), ho1.grown hO1.2.2 hgrow⟩
        rw [strCells_by, ← List.map_append] at hown
        rw [List.length_append, by_len]
        exact hown
      have HG := Lib.hid hG
      have hc1 := cell_of_one hblk
      have hf1 := free_of_one hblk
      clear hG hblk hown hgrow hc0 hf0 hO1
      go_wp2
      obtain ⟨hO4, hb4, ho4⟩ := HG.out.stored
      rw [← hres.out] at hO4
      go_roundw
      case rel => exact ⟨k + 1, by omega, by go_num, _, hO4, hb4, ho4⟩
      case measure => simp [intOf]; omega
    · obtain rfl : k = zs.length := by omega
      go_wp2
      go_ret
      exact ⟨rfl, v1, by rw [List.take_length] at hO1; exact hO1, hb1, ho1⟩
theorem conv_nil (w : World) : Sem.run Try.prog (convert 84 9 (.slice none 0 0)) w = Result.ok (.string (ofL [])) w := by kernel_rfl
theorem conv_out {w : World} {B b : Nat} {v : Value} {L : List UInt8} (h : OutAt w B b v L) : Sem.run Try.prog (convert 84 9 v) w = Result.ok (.string (ofL L)) w := by
  rcases h.2.2.2 with ⟨rfl, hn⟩ | ⟨g, cap, cur, rfl, _⟩
  · obtain rfl : L = [] := List.length_eq_zero_iff.1 hn
    exact conv_nil w
  · exact conv_own h.2.2 rfl
theorem bytes_any (B b : Nat) (v : Value) (L : List UInt8) (w : World) (hO : OutAt w B b v L) :
    Calls Try.prog 36 #[.pointer (some ⟨b, 0, none⟩)] w fun e w' => e = .returned (.string (ofL L)) ∧ w = w' := by
  have hconv := conv_out hO
  have hc0 := cell_of_one hO.1
  obtain ⟨ad1, c1, rfl⟩ := own_slice hO.2.2
  go_enter Try.func36, Try.ntmps36
  go_wp2_with ((go_at_call 61; refine (orNew_any _ _).mono ?_; rintro e w' ⟨rfl, rfl⟩))
  go_ret
  exact ⟨rfl, rfl⟩
end Go.Proofs.Ytilobmebfeenfaa
