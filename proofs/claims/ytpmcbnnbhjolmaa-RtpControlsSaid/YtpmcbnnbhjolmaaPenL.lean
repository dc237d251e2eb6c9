/- Writing slices just laid; the statements' awake. -/
import Derived.Test.YtpmcbnnbhjolmaaPenO2
import Derived.Test.YtpmcbnnbhjolmaaPenR
import Derived.Test.YtpmcbnnbhjolmaaPenM
namespace Go.Proofs.Ytpmcbnnbhjolmaa
open Go.RowKit
set_option linter.unusedVariables false
theorem InAt.others {w w' : World} {b b' : Nat} {s : ByteArray} {er : Int} (h : InAt w b' s er) (hne : b' ≠ b) (ho : Others b w w') : InAt w' b' s er := ho b' _ h hne (by intro cur p e; cases e)
theorem InAt.alloc {w : World} {b : Nat} {s : ByteArray} {er : Int} (h : InAt w b s er) (o : Obj) : InAt (w.alloc o) b s er := h.later ((Below.refl _ _).alloc (Nat.le_refl _) o)
theorem out_new (W : World) (B : Nat) (hB : B ≤ W.heap.size) : OutAt (W.alloc (.cells #[.slice none 0 0] 26)) B W.heap.size (.slice none 0 0) [] :=
  ⟨heap_alloc_new W _, hB, World.ownsRow_nil _ _ _ _⟩
theorem u8_lit (B b : Nat) (v : Value) (L : List UInt8) (zs : List Int) (cs : Array Value) (n g : Nat) (W : World) (hg : g = W.heap.size) (hO : OutAt W B b v L) (hcs : cs.toList = zs.map (Value.int .i64)) (hn : n = zs.length) (hL : L.length + zs.length * 1 ≤ 1099511627776) (hl : zs.length ≤ 1099511627776) :
    Calls Try.prog 14 #[.pointer (some ⟨b, 0, none⟩), .slice (some ⟨g, 0, none⟩) n n] (W.alloc (.cells cs 3)) (Wrote B b (L ++ bes zs 1) W) := by
  subst hg
  refine (u8_any B b v L zs _ n n _ (hO.alloc _) hn (fun w' _ ho => lit_reads (heap_alloc_new W _) hcs (by have := hO.lt; omega) (by decide) w' ho) hl hL).mono ?_
  rintro e w' ⟨rfl, v', h1, h2, h3⟩
  exact ⟨rfl, v', h1, ((Below.refl _ _).alloc (by have := hO.lt; have := hO.2.1; omega) _).trans h2, ((Others.refl _ _).alloc _).trans h3⟩
theorem u16_lit (B b : Nat) (v : Value) (L : List UInt8) (zs : List Int) (cs : Array Value) (n g : Nat) (W : World) (hg : g = W.heap.size) (hO : OutAt W B b v L) (hcs : cs.toList = zs.map (Value.int .i64)) (hn : n = zs.length) (hL : L.length + zs.length * 2 ≤ 1099511627776) (hl : zs.length ≤ 1099511627776) :
    Calls Try.prog 16 #[.pointer (some ⟨b, 0, none⟩), .slice (some ⟨g, 0, none⟩) n n] (W.alloc (.cells cs 3)) (Wrote B b (L ++ bes zs 2) W) := by
  subst hg
  refine (u16_any B b v L zs _ n n _ (hO.alloc _) hn (fun w' _ ho => lit_reads (heap_alloc_new W _) hcs (by have := hO.lt; omega) (by decide) w' ho) hl hL).mono ?_
  rintro e w' ⟨rfl, v', h1, h2, h3⟩
  exact ⟨rfl, v', h1, ((Below.refl _ _).alloc (by have := hO.lt; have := hO.2.1; omega) _).trans h2, ((Others.refl _ _).alloc _).trans h3⟩
theorem u24_lit (B b : Nat) (v : Value) (L : List UInt8) (zs : List Int) (cs : Array Value) (n g : Nat) (W : World) (hg : g = W.heap.size) (hO : OutAt W B b v L) (hcs : cs.toList = zs.map (Value.int .i64)) (hn : n = zs.length) (hL : L.length + zs.length * 3 ≤ 1099511627776) (hl : zs.length ≤ 1099511627776) :
    Calls Try.prog 17 #[.pointer (some ⟨b, 0, none⟩), .slice (some ⟨g, 0, none⟩) n n] (W.alloc (.cells cs 3)) (Wrote B b (L ++ bes zs 3) W) := by
  subst hg
  refine (u24_any B b v L zs _ n n _ (hO.alloc _) hn (fun w' _ ho => lit_reads (heap_alloc_new W _) hcs (by have := hO.lt; omega) (by decide) w' ho) hl hL).mono ?_
  rintro e w' ⟨rfl, v', h1, h2, h3⟩
  exact ⟨rfl, v', h1, ((Below.refl _ _).alloc (by have := hO.lt; have := hO.2.1; omega) _).trans h2, ((Others.refl _ _).alloc _).trans h3⟩
theorem u32_lit (B b : Nat) (v : Value) (L : List UInt8) (zs : List Int) (cs : Array Value) (n g : Nat) (W : World) (hg : g = W.heap.size) (hO : OutAt W B b v L) (hcs : cs.toList = zs.map (Value.int .u32)) (hn : n = zs.length) (hL : L.length + zs.length * 4 ≤ 1099511627776) (hl : zs.length ≤ 1099511627776) :
    Calls Try.prog 18 #[.pointer (some ⟨b, 0, none⟩), .slice (some ⟨g, 0, none⟩) n n] (W.alloc (.cells cs 33)) (Wrote B b (L ++ bes zs 4) W) := by
  subst hg
  refine (u32_any B b v L zs _ n n _ (hO.alloc _) hn (fun w' _ ho => lit_reads (heap_alloc_new W _) hcs (by have := hO.lt; omega) (by decide) w' ho) hl hL).mono ?_
  rintro e w' ⟨rfl, v', h1, h2, h3⟩
  exact ⟨rfl, v', h1, ((Below.refl _ _).alloc (by have := hO.lt; have := hO.2.1; omega) _).trans h2, ((Others.refl _ _).alloc _).trans h3⟩
theorem outRaw_lit (B b : Nat) (v : Value) (L : List UInt8) (zs : List ByteArray) (cs : Array Value) (n g : Nat) (W : World) (hg : g = W.heap.size) (hO : OutAt W B b v L) (hcs : cs.toList = zs.map Value.string) (hn : n = zs.length) (hL : L.length + (cat zs).length ≤ 1099511627776) (hl : zs.length ≤ 1099511627776) :
    Calls Try.prog 20 #[.pointer (some ⟨b, 0, none⟩), .slice (some ⟨g, 0, none⟩) n n] (W.alloc (.cells cs 9)) (Wrote B b (L ++ cat zs) W) := by
  subst hg
  refine (outRaw_any B b v L zs _ n n _ (hO.alloc _) hn (fun w' _ ho => lit_readsT (heap_alloc_new W _) hcs (by have := hO.lt; omega) (by decide) w' ho) hl hL).mono ?_
  rintro e w' ⟨rfl, v', h1, h2, h3⟩
  exact ⟨rfl, v', h1, ((Below.refl _ _).alloc (by have := hO.lt; have := hO.2.1; omega) _).trans h2, ((Others.refl _ _).alloc _).trans h3⟩
set_option maxHeartbeats 800000 in
theorem penAwake_any (w : World) : Calls Try.prog 13 #[] w fun e w' => e = .returned (.bool true) ∧ Below w.heap.size w w' := by
  have e1 : ([] : List UInt8) ++ bes [1, 258] 1 = [1, 2] := by decide
  have e2 : ([1, 2] : List UInt8) ++ bes [3] 2 = [1, 2, 0, 3] := by decide
  have e3 : ofL [1, 2, 0, 3] = { data := #[1, 2, 0, 3] } := rfl
  obtain ⟨r1, r2, r3⟩ := raw_ahead [1, 2] [] 0 2 rfl
  have r4 : getN (by_ (ofL [1, 2])) = 258 := by rw [by_ofL]; decide
  have e4 : ofL [] = { data := #[] } := rfl
  have e5 : ofL ([1, 2] ++ []) = { data := #[1, 2] } := rfl
  have e6 : endE { data := #[] } 0 = 0 := by decide
  rw [e5] at r1 r2 r3
  rw [e4] at r2
  have hO0 := (out_new w w.heap.size (Nat.le_refl _)).alloc (.cells #[.string { data := #[1, 2] }, .int .i64 0] 89)
  have hI0 : InAt ((w.alloc (.cells #[.slice none 0 0] 26)).alloc (.cells #[.string { data := #[1, 2] }, .int .i64 0] 89)) (w.heap.size + 1) { data := #[1, 2] } 0 := by simpa using inAt_new { data := #[1, 2] } (w.alloc (.cells #[.slice none 0 0] 26))
  have hb0 : Below w.heap.size w ((w.alloc (.cells #[.slice none 0 0] 26)).alloc (.cells #[.string { data := #[1, 2] }, .int .i64 0] 89)) := ((Below.refl _ _).alloc (Nat.le_refl _) _).alloc (by simp) _
  go_enter Try.func13, Try.ntmps13
  go_wp2_with ((go_at_call 22; refine (of_any _ _).mono ?_; rintro e w' ⟨rfl, rfl⟩))
  refine (u8_lit _ _ _ _ [1, 258] _ 2 _ _ (by simp) hO0 rfl rfl (by decide) (by decide)).mono ?_
  rw [e1]
  rintro e w1 ⟨rfl, v1, hO1, hb1, ho1⟩
  have hI1 := hI0.others (by simp) ho1
  have hb2 := hb0.trans hb1
  clear hO0 hI0 hb0 hb1 ho1
  go_wp2_with fail
  refine (u16_lit _ _ _ _ [3] _ 1 _ _ rfl hO1 rfl rfl (by decide) (by decide)).mono ?_
  rw [e2]
  rintro e w2 ⟨rfl, v2, hO2, hb3, ho3⟩
  have hI2 := hI1.others (by simp) ho3
  have hb4 := hb2.trans hb3
  clear hO1 hI1 hb2 hb3 ho3
  go_wp2_with fail
  refine (bytes_any _ _ _ _ _ hO2).mono ?_
  rw [e3]
  rintro e w3 ⟨rfl, rfl⟩
  have HC := inU16_any _ _ _ _ hI2 (by decide)
  rw [r1, r2, r3, r4] at HC
  go_wp2_with fail
  refine HC.mono ?_
  rintro e w3 ⟨rfl, hI3, ho5⟩
  have hb5 := hb4.trans (ho5.below (by omega))
  have HE := end_any _ _ _ _ hI3
  rw [e6] at HE
  clear hO2 hI2 hb4 ho5
  go_wp2_with ((go_at_call 33; refine (HE).mono ?_; rintro e w' ⟨rfl, rfl⟩))
  go_ret
  exact ⟨rfl, hb5⟩
end Go.Proofs.Ytpmcbnnbhjolmaa
