/- Writing slices just laid; the statements' awake. -/
import Derived.Test.YtilobmebfeenfaaPenO2
import Derived.Test.YtilobmebfeenfaaPenR
import Derived.Test.YtilobmebfeenfaaPenM
namespace Go.Proofs.Ytilobmebfeenfaa
open Go.RowKit
set_option linter.unusedVariables false
theorem InAt.others {w w' : World} {b b' : Nat} {s : ByteArray} {er : Int} (h : InAt w b' s er) (hne : b' ≠ b) (ho : Others b w w') : InAt w' b' s er := ho b' _ h hne (by intro cur p e; cases e)
theorem InAt.alloc {w : World} {b : Nat} {s : ByteArray} {er : Int} (h : InAt w b s er) (o : Obj) : InAt (w.alloc o) b s er := h.later ((Below.refl _ _).alloc (Nat.le_refl _) o)
theorem out_new (W : World) (B : Nat) (hB : B ≤ W.heap.size) : OutAt (W.alloc (.cells #[.slice none 0 0] 86)) B W.heap.size (.slice none 0 0) [] :=
  ⟨heap_alloc_new W _, hB, World.ownsRow_nil _ _ _ _⟩
theorem u8_lit (B b : Nat) (v : Value) (L : List UInt8) (zs : List Int) (cs : Array Value) (n g : Nat) (W : World) (hg : g = W.heap.size) (hO : OutAt W B b v L) (hcs : cs.toList = zs.map (Value.int .i64)) (hn : n = zs.length) (hL : L.length + zs.length * 1 ≤ 1099511627776) (hl : zs.length ≤ 1099511627776) :
    Calls Try.prog 58 #[.pointer (some ⟨b, 0, none⟩), .slice (some ⟨g, 0, none⟩) n n] (W.alloc (.cells cs 3)) (Wrote B b (L ++ bes zs 1) W) := by
  subst hg
  refine (u8_any B b v L zs _ n n _ (hO.alloc _) hn (fun w' _ ho => lit_reads (heap_alloc_new W _) hcs (by have := hO.lt; omega) (by decide) w' ho) hl hL).mono ?_
  rintro e w' ⟨rfl, v', h1, h2, h3⟩
  exact ⟨rfl, v', h1, ((Below.refl _ _).alloc (by have := hO.lt; have := hO.2.1; omega) _).trans h2, ((Others.refl _ _).alloc _).trans h3⟩
theorem u16_lit (B b : Nat) (v : Value) (L : List UInt8) (zs : List Int) (cs : Array Value) (n g : Nat) (W : World) (hg : g = W.heap.size) (hO : OutAt W B b v L) (hcs : cs.toList = zs.map (Value.int .i64)) (hn : n = zs.length) (hL : L.length + zs.length * 2 ≤ 1099511627776) (hl : zs.length ≤ 1099511627776) :
    Calls Try.prog 59 #[.pointer (some ⟨b, 0, none⟩), .slice (some ⟨g, 0, none⟩) n n] (W.alloc (.cells cs 3)) (Wrote B b (L ++ bes zs 2) W) := by
  subst hg
  refine (u16_any B b v L zs _ n n _ (hO.alloc _) hn (fun w' _ ho => lit_reads (heap_alloc_new W _) hcs (by have := hO.lt; omega) (by decide) w' ho) hl hL).mono ?_
  rintro e w' ⟨rfl, v', h1, h2, h3⟩
  exact ⟨rfl, v', h1, ((Below.refl _ _).alloc (by have := hO.lt; have := hO.2.1; omega) _).trans h2, ((Others.refl _ _).alloc _).trans h3⟩
theorem u32_lit (B b : Nat) (v : Value) (L : List UInt8) (zs : List Int) (cs : Array Value) (n g : Nat) (W : World) (hg : g = W.heap.size) (hO : OutAt W B b v L) (hcs : cs.toList = zs.map (Value.int .u32)) (hn : n = zs.length) (hL : L.length + zs.length * 4 ≤ 1099511627776) (hl : zs.length ≤ 1099511627776) :
    Calls Try.prog 60 #[.pointer (some ⟨b, 0, none⟩), .slice (some ⟨g, 0, none⟩) n n] (W.alloc (.cells cs 25)) (Wrote B b (L ++ bes zs 4) W) := by
  subst hg
  refine (u32_any B b v L zs _ n n _ (hO.alloc _) hn (fun w' _ ho => lit_reads (heap_alloc_new W _) hcs (by have := hO.lt; omega) (by decide) w' ho) hl hL).mono ?_
  rintro e w' ⟨rfl, v', h1, h2, h3⟩
  exact ⟨rfl, v', h1, ((Below.refl _ _).alloc (by have := hO.lt; have := hO.2.1; omega) _).trans h2, ((Others.refl _ _).alloc _).trans h3⟩
theorem outRaw_lit (B b : Nat) (v : Value) (L : List UInt8) (zs : List ByteArray) (cs : Array Value) (n g : Nat) (W : World) (hg : g = W.heap.size) (hO : OutAt W B b v L) (hcs : cs.toList = zs.map Value.string) (hn : n = zs.length) (hL : L.length + (cat zs).length ≤ 1099511627776) (hl : zs.length ≤ 1099511627776) :
    Calls Try.prog 34 #[.pointer (some ⟨b, 0, none⟩), .slice (some ⟨g, 0, none⟩) n n] (W.alloc (.cells cs 9)) (Wrote B b (L ++ cat zs) W) := by
  subst hg
  refine (outRaw_any B b v L zs _ n n _ (hO.alloc _) hn (fun w' _ ho => lit_readsT (heap_alloc_new W _) hcs (by have := hO.lt; omega) (by decide) w' ho) hl hL).mono ?_
  rintro e w' ⟨rfl, v', h1, h2, h3⟩
  exact ⟨rfl, v', h1, ((Below.refl _ _).alloc (by have := hO.lt; have := hO.2.1; omega) _).trans h2, ((Others.refl _ _).alloc _).trans h3⟩
end Go.Proofs.Ytilobmebfeenfaa
