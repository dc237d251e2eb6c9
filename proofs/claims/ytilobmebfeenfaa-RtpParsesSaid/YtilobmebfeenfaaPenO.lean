/- pen.Out: what has been written. -/
import Derived.Test.YtilobmebfeenfaaBase
import Derived.Deep.RegionLaw
import Derived.Lib.AppendStr
namespace Go.Proofs.Ytilobmebfeenfaa
open Go.RowKit
set_option linter.unusedVariables false
/-- The number of bytes i of the highest ones that a number of so many bytes is written as. -/
def beP (n : Int) (size i : Nat) : List UInt8 := (List.range i).map fun j => UInt8.ofNat ((n / 2 ^ (8 * (size - 1 - j))) % 256).toNat
theorem beP_succ (n : Int) (size i : Nat) : beP n size (i + 1) = beP n size i ++ [UInt8.ofNat ((n / 2 ^ (8 * (size - 1 - i))) % 256).toNat] := by simp [beP, List.range_succ]
/-- A number in so many bytes, the highest first. -/
def be (n : Int) (size : Nat) : List UInt8 := beP n size size
theorem beP_len (n : Int) (size i : Nat) : (beP n size i).length = i := by simp [beP]
theorem be_len (n : Int) (size : Nat) : (be n size).length = size := beP_len n size size
/-- Numbers, one behind the other. -/
def bes (zs : List Int) (size : Nat) : List UInt8 := (zs.map fun n => be n size).flatten
theorem bes_len (zs : List Int) (size : Nat) : (bes zs size).length = zs.length * size := by
  unfold bes
  induction zs with
  | nil => simp
  | cons a l ih => simp only [List.map_cons, List.flatten_cons, List.length_append, be_len, List.length_cons, ih]; rw [Nat.add_mul, Nat.one_mul, Nat.add_comm]
theorem bes_take_succ (zs : List Int) (size k : Nat) (h : k < zs.length) : bes (zs.take (k + 1)) size = bes (zs.take k) size ++ be (zs[k]?.getD 0) size := by
  unfold bes
  rw [List.take_succ_eq_append_getElem h, List.map_append, List.flatten_append]
  simp [h]
/-- At block b there is an Out; v is its slice, which holds the bytes L; all that it owns lies from B on. -/
def OutAt (w : World) (B b : Nat) (v : Value) (L : List UInt8) : Prop :=
  w.heap[b]? = some (.cells #[v] 86 (0, 0)) ∧ B ≤ b ∧ w.ownsRow B 5 1 v L.length (L.map u8v)
/-- What is neither the Out's, nor bytes, is as it was. -/
def Others (b : Nat) (w w' : World) : Prop := ∀ k o, w.heap[k]? = some o → k ≠ b → (∀ cur p, o ≠ .cells cur 5 p) → w'.heap[k]? = some o
theorem Others.refl (b : Nat) (w : World) : Others b w w := fun _ _ h _ _ => h
theorem Others.trans {b : Nat} {w w' w'' : World} (h : Others b w w') (h' : Others b w' w'') : Others b w w'' := fun k o hk hb hn => h' k o (h k o hk hb hn) hb hn
theorem Others.drew {b : Nat} {w w' : World} (h : Others b w w') : Others b w w'.drew := h
theorem Others.alloc {b : Nat} {w w' : World} (h : Others b w w') (o : Obj) : Others b w (w'.alloc o) := fun k p hk hb hn => by
  have := h k p hk hb hn
  rw [Below.heap_alloc _ _ _ (lt_of_block this)]; exact this
theorem Others.setCell {b : Nat} {w w' : World} (h : Others b w w') (i : Nat) (u : Value) : Others b w (w'.setCell ⟨b, i, none⟩ u) := fun k p hk hb hn => by
  rw [Below.heap_setCell _ _ _ _ hb]; exact h k p hk hb hn
/-- A row of the call's own of which the elements are bytes: what it was written over held bytes. -/
theorem row_bytes {w : World} {B : Nat} {v : Value} {n : Nat} {xs : List Value} (h : w.ownsRow B 5 1 v n xs) {k : Nat} {o : Obj} (hk : w.heap[k]? = some o) (hn : ∀ cur p, o ≠ .cells cur 5 p) : some k ≠ v.ownBlock := by
  intro e
  rcases h.2 with ⟨rfl, _⟩ | ⟨g, cap, cur, rfl, _, hg, _⟩
  · cases e
  · simp only [Value.ownBlock, Option.some.injEq] at e
    subst e
    rw [hg] at hk
    exact hn _ _ (Option.some.inj hk).symm
theorem Others.grown {b : Nat} {w w' w'' : World} (h : Others b w w') {B : Nat} {v : Value} {n : Nat} {xs : List Value} (hv : w'.ownsRow B 5 1 v n xs) (hg : w'.grownBy w'' v.ownBlock) : Others b w w'' := fun k o hk hb hn => by
  have h1 := h k o hk hb hn
  rw [hg.block k (lt_of_block h1) (row_bytes hv h1 hn)]; exact h1
theorem pen_ne (v : Value) (q : Nat × Nat) : ∀ cur p, Obj.cells #[v] 86 q ≠ .cells cur 5 p := by
  intro cur p e; cases e
theorem OutAt.lt {w : World} {B b : Nat} {v : Value} {L : List UInt8} (h : OutAt w B b v L) : b < w.heap.size := lt_of_block h.1
theorem OutAt.later {w w' : World} {B b : Nat} {v : Value} {L : List UInt8} (h : OutAt w B b v L) (hb : Below w.heap.size w w') : OutAt w' B b v L := by
  refine ⟨by rw [hb.block b h.lt]; exact h.1, h.2.1, ?_⟩
  exact h.2.2.kept (row := none) ⟨hb.os, hb.tape, hb.output, hb.size, fun k hk _ => hb.block k hk⟩ (by cases hv : v.ownBlock <;> simp)
theorem OutAt.alloc {w : World} {B b : Nat} {v : Value} {L : List UInt8} (h : OutAt w B b v L) (o : Obj) : OutAt (w.alloc o) B b v L := h.later ((Below.refl _ _).alloc (Nat.le_refl _) o)
theorem OutAt.drew {w : World} {B b : Nat} {v : Value} {L : List UInt8} (h : OutAt w B b v L) : OutAt w.drew B b v L := h.later (Below.refl _ _).drew
theorem OutAt.drewN {w : World} {B b : Nat} {v : Value} {L : List UInt8} (h : OutAt w B b v L) (n : Nat) : OutAt (w.drewN n) B b v L := h.later (below_drewN (Below.refl _ _) n)
/-- Behind 'append' of bytes to an Out's own, ahead of the store. -/
def OutGrown (w0 w : World) (B b : Nat) (v v' : Value) (L' : List UInt8) : Prop :=
  w.heap[b]? = some (.cells #[v] 86 (0, 0)) ∧ B ≤ b ∧ w.ownsRow B 5 1 v' L'.length (L'.map u8v) ∧ Below B w0 w ∧ Others b w0 w
theorem OutGrown.stored {w0 w : World} {B b : Nat} {v v' : Value} {L' : List UInt8} (h : OutGrown w0 w B b v v' L') : OutAt (w.setCell ⟨b, 0, none⟩ v') B b v' L' ∧ Below B w0 (w.setCell ⟨b, 0, none⟩ v') ∧ Others b w0 (w.setCell ⟨b, 0, none⟩ v') := by
  obtain ⟨h1, h2, h3, h4, h5⟩ := h
  refine ⟨⟨one_setCell h1, h2, ownsRow_setCell_other h3 (fun e => row_bytes h3 h1 (pen_ne _ _) e.symm) _⟩, h4.setCell h2 _, h5.setCell 0 _⟩
theorem step_append_own {P : Program} {ops : Array Oper} {o : Oper} {a : Act} {w : World} {K : Act → World → Prop} {Q : Exit → Act → World → Prop} {E : Prop} (hgd : o.guard = none) (s x : Operand) (t : TypeId)
    (ho : o.op = .call { callee := .builtin .append, args := #[s, x], argTypes := #[t, t] })
    (base : Nat) (e : TypeId) (i : TypeInfo) (z : Value) (size bytes : Nat) (ht : P.underlying t = some (.slice e)) (hi : P.info? e = some i) (hz : i.zero = some z)
    (hsize : i.size = size) (hby : i.bytes = bytes) (hzs : z.cells.size = size) (hsz : 0 < size)
    (v : Value) (n : Nat) (xs : List Value) (hs : a.eval s = v) (hown : w.ownsRow base e size v n xs)
    (ad : Addr) (m c : Nat) (news : List Value) (hx : a.eval x = .slice (some ad) m c) (hl : news.length = m * size) (hnews : ∀ j u, news[j]? = some u → w.cell? (ad.add j) = some u) (h1 : ∀ u ∈ news, u.oneCell' = true)
    (h63 : n + m ≤ maxLen) (hbytes : (n + m) * bytes ≤ 140737488355328) (hbase : base ≤ w.heap.size)
    (h : ∀ v' w', w'.ownsRow base e size v' (n + m) (xs ++ news) → w.grownBy w' v.ownBlock → (v' = .slice none 0 0 ↔ v = .slice none 0 0 ∧ m = 0) → K (a.put o.dst v') w') :
    if Region.wanted o (yielded ops a.tmps) = true then Oper.wp P o a w K Q else E := by
  rw [if_pos (by simp [Region.wanted, hgd])]
  exact wp_append_own w s x t ho base e i z size bytes ht hi hz hsize hby hzs hsz v n xs hs hown ad m c news hx hl hnews h1 h63 hbytes hbase h
theorem own_slice {w : World} {B : Nat} {e : TypeId} {v : Value} {n : Nat} {xs : List Value} (h : w.ownsRow B e 1 v n xs) : ∃ a c, v = .slice a n c := by
  rcases h.2 with ⟨rfl, rfl⟩ | ⟨g, cap, cur, rfl, _⟩
  · exact ⟨_, _, rfl⟩
  · exact ⟨_, _, rfl⟩
/-- 'o.bytes = append(o.bytes, x)', the append, in a region that draws its order. -/
theorem step_out {ops : Array Oper} {o : Oper} {a : Act} {w : World} {K : Act → World → Prop} {Q : Exit → Act → World → Prop} {E : Prop} (hgd : o.guard = none) (s x : Operand)
    (ho : o.op = .call { callee := .builtin .append, args := #[s, x], argTypes := #[84, 84] })
    (B b : Nat) (v : Value) (L : List UInt8) (u : UInt8) (X : Int) (hX : Hid (X = (u.toNat : Int))) (hO : OutAt w B b v L) (hL : L.length + 1 ≤ 1099511627776) (hs : a.eval s = v) (hx : a.eval x = .slice (some ⟨w.heap.size, 0, none⟩) 1 1)
    (h : ∀ ad c w', Hid (OutGrown w w' B b v (.slice ad (L.length + 1) c) (L ++ [u])) → w'.cell? ⟨b, 0, none⟩ = some v → w'.frozen? ⟨b, 0, none⟩ = false → K (a.put o.dst (.slice ad (L.length + 1) c)) w') :
    if Region.wanted o (yielded ops a.tmps) = true then Oper.wp Try.prog o a (w.alloc (.cells #[.int .u8 X] 5)).drew K Q else E := by
  obtain rfl := hX.out
  obtain ⟨i0, hi, hz0, hz1, hz2⟩ := info_parts info8
  have hO1 := (hO.alloc (.cells #[.int .u8 (u.toNat : Int)] 5)).drew
  refine step_append_own hgd s x _ ho B 5 i0 (.int .u8 0) 1 1 Try.underlying84 hi hz0 hz1 hz2 rfl (by decide) v L.length (L.map u8v) hs hO1.2.2 ⟨w.heap.size, 0, none⟩ 1 1 [.int .u8 (u.toNat : Int)] hx rfl ?_ ?_ (by unfold maxLen; omega) (by omega) (by have := hO1.lt; have := hO.2.1; omega) ?_
  · intro j u' hj
    match j, hj with
    | 0, hj => simp at hj; subst hj; simp [Addr.add]
  · intro u' hu; simp at hu; subst hu; rfl
  · intro v' w' hown hgrow _
    obtain ⟨ad, c, rfl⟩ := own_slice hown
    have hblk : w'.heap[b]? = some (.cells #[v] 86 (0, 0)) := by rw [hgrow.block b hO1.lt (row_bytes hO1.2.2 hO1.1 (pen_ne _ _))]; exact hO1.1
    refine h ad c w' ⟨hblk, hO.2.1, ?_, ?_, ?_⟩ (cell_of_one hblk) (free_of_one hblk)
    · simpa [u8v] using hown
    · refine ((Below.refl _ _).alloc (by have := hO.lt; have := hO.2.1; omega) _).drew.grown hgrow (by have := hO1.lt; have := hO.2.1; omega) ?_
      intro k hk
      exact (hO1.2.2.lt k hk).1
    · exact ((Others.refl b w).alloc _).drew.grown hO1.2.2 hgrow
theorem orNew_any (b : Nat) (w : World) : Calls Try.prog 61 #[.pointer (some ⟨b, 0, none⟩)] w fun e w' => e = .returned (.pointer (some ⟨b, 0, none⟩)) ∧ w = w' := by
  go_enter Try.func61, Try.ntmps61
  go_wp2
  go_ret
  exact ⟨rfl, rfl⟩
theorem byte_num (n : Int) (size i : Nat) (hi : i < size) (h4 : size ≤ 4) : IntKind.u8.wrap (n / 2 ^ (8 * ((size : Int) - 1 - (i : Int))).toNat) = ((UInt8.ofNat ((n / 2 ^ (8 * (size - 1 - i))) % 256).toNat).toNat : Int) := by
  rw [show (8 * ((size : Int) - 1 - (i : Int))).toNat = 8 * (size - 1 - i) from by omega]
  generalize n / 2 ^ (8 * (size - 1 - i)) = x
  have h0 : 0 ≤ x % 256 := Int.emod_nonneg _ (by decide)
  have h1 : x % 256 < 256 := Int.emod_lt_of_pos _ (by decide)
  rw [UInt8.toNat_ofNat', Nat.mod_eq_of_lt (by omega), Int.toNat_of_nonneg h0]
  simp [IntKind.wrap, IntKind.bits, IntKind.signed]
set_option maxHeartbeats 800000 in
theorem writeI_any (B b : Nat) (v : Value) (L : List UInt8) (size : Nat) (zs : List Int) (a : Option Addr) (c n : Nat) (w : World) (hO : OutAt w B b v L) (h1 : 1 ≤ size) (h4 : size ≤ 4) (hn : n = zs.length)
    (hr : ∀ w', Below B w w' → Others b w w' → Reads .i64 w' a zs) (hl : zs.length ≤ 1099511627776) (hL : L.length + zs.length * size ≤ 1099511627776) :
    Calls Try.prog 71 #[.pointer (some ⟨b, 0, none⟩), .int .i64 (size : Int), .slice a n c] w fun e w' =>
      e = .returned (.pointer (some ⟨b, 0, none⟩)) ∧ ∃ v', OutAt w' B b v' (L ++ bes zs size) ∧ Below B w w' ∧ Others b w w' := by
  subst hn
  go_enter Try.func71, Try.ntmps71
  go_wp2_with ((go_at_call 61; refine (orNew_any _ _).mono ?_; rintro e w' ⟨rfl, rfl⟩))
  go_loopw [14] (fun i wr => ∃ k : Nat, k ≤ zs.length ∧ i = .int .i64 k ∧ ∃ v', OutAt wr B b v' (L ++ bes (zs.take k) size) ∧ Below B w wr ∧ Others b w wr) (fun i _ => zs.length - (intOf i).toNat)
  case atStart => exact ⟨0, Nat.zero_le _, rfl, v, by simpa [bes] using hO, Below.refl _ _, Others.refl _ _⟩
  case round =>
    obtain ⟨k, hk, rfl, v1, hO1, hb1, ho1⟩ := hrel
    by_cases hlt : k < zs.length
    · obtain ⟨ab, off, rfl, hcell⟩ := (hr _ hb1 ho1).at hlt
      have hts := Lib.hid (bes_take_succ zs size k hlt)
      generalize zs[k]?.getD 0 = x at hcell hts
      have hlen : (L ++ bes (zs.take k) size).length + size ≤ 1099511627776 := by
        have e : (k + 1) * size ≤ zs.length * size := Nat.mul_le_mul_right _ hlt
        rw [List.length_append, bes_len, List.length_take, Nat.min_eq_left hk]
        rw [Nat.add_mul, Nat.one_mul] at e
        omega
      generalize bes (zs.take k) size = M at hts hO1 hlen
      clear hO hr
      go_wp2
      obtain ⟨wo, rfl⟩ : ∃ wo : World, wo = wr := ⟨_, rfl⟩
      go_loopw [19] (fun i wi => ∃ j : Nat, j ≤ size ∧ i = .int .i64 j ∧ ∃ v', OutAt wi B b v' (L ++ M ++ beP x size j) ∧ Below B w wi ∧ Others b w wi) (fun i _ => size - (intOf i).toNat)
      case atStart => exact ⟨0, by omega, rfl, v1, by simpa [beP, List.append_assoc] using hO1, hb1, ho1⟩
      case round =>
        obtain ⟨j, hj, rfl, v2, hO2, hb2, ho2⟩ := hrel
        clear hO1 hb1 ho1 hcell
        by_cases hlt2 : j < size
        · have hbn := Lib.hid (byte_num x size j hlt2 h4)
          have hbs : Hid (L ++ M ++ beP x size (j + 1) = (L ++ M ++ beP x size j) ++ [UInt8.ofNat ((x / 2 ^ (8 * (size - 1 - j))) % 256).toNat]) := by show _ = _; rw [beP_succ, List.append_assoc (L ++ M)]
          generalize UInt8.ofNat ((x / 2 ^ (8 * (size - 1 - j))) % 256).toNat = u at hbn hbs
          have hc0 := cell_of_one hO2.1
          have hf0 := free_of_one hO2.1
          have hbl := hO2.lt
          have hlen2 : (L ++ M ++ beP x size j).length + 1 ≤ 1099511627776 := by rw [List.length_append, beP_len]; omega
          generalize L ++ M ++ beP x size j = A at hbs hO2 hlen2
          obtain ⟨ad2, c2, rfl⟩ := own_slice hO2.2.2
          have e1 : IntKind.i64.wrap ((size : Int) - 1) = (size : Int) - 1 := IntWalk.i64_in _ ⟨by omega, by omega⟩
          have e2 : IntKind.i64.wrap ((size : Int) - 1 - (j : Int)) = (size : Int) - 1 - (j : Int) := IntWalk.i64_in _ ⟨by omega, by omega⟩
          have e3 : IntKind.i64.wrap (8 * ((size : Int) - 1 - (j : Int))) = 8 * ((size : Int) - 1 - (j : Int)) := IntWalk.i64_in _ ⟨by omega, by omega⟩
          have e4 : (0 : Int) ≤ 8 * ((size : Int) - 1 - (j : Int)) := by omega
          go_wp2
          go_region_law (refine step_out rfl (.tmp 26) (.tmp 35) rfl B b _ A u _ hbn hO2 hlen2 rfl rfl ?_; intro ad3 c3 w3 hg3 hc3 hf3)
          all_goals
            obtain ⟨hO4, hb4, ho4⟩ := hg3.out.stored
            rw [← hbs.out] at hO4
            clear hg3 hc3 hf3 hc0 hf0 e1 e2 e3 e4 hbn hbs hO2
            go_wp2
            go_roundw
            case rel => exact ⟨j + 1, by omega, by go_num, _, hO4, hb2.trans hb4, ho2.trans ho4⟩
            case measure => simp [intOf]; omega
        · obtain rfl : j = size := by omega
          go_wp2
          go_roundw
          case rel => exact ⟨k + 1, by omega, by go_num, _, by rw [hts.out, ← List.append_assoc]; exact hO2, hb2, ho2⟩
          case measure => simp [intOf]; omega
    · obtain rfl : k = zs.length := by omega
      go_wp2
      go_ret
      exact ⟨rfl, v1, by rw [List.take_length] at hO1; exact hO1, hb1, ho1⟩
end Go.Proofs.Ytilobmebfeenfaa
