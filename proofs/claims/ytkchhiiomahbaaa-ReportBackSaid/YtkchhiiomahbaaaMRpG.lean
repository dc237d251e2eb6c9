/- report.Sent.writeSent. -/
import Derived.Test.YtkchhiiomahbaaaMRpN
import Derived.Test.YtkchhiiomahbaaaMb
namespace Go.Proofs.Ytkchhiiomahbaaa
open Go.RowKit
set_option linter.unusedVariables false
theorem be_low4' (m : Int) : be (IntKind.u32.wrap m) 4 = be m 4 := by
  have e : IntKind.u32.wrap m = m % 4294967296 := rfl
  rw [e, be_low4]
theorem be_clk (c : Int) (h0 : 0 ≤ c) (h1 : c ≤ 1099511627776) : be c 8 = be (c / 4294967296) 4 ++ be c 4 := by
  have e := be_8 (c / 4294967296).toNat (c % 4294967296).toNat (by omega) (by omega)
  rw [show (((c / 4294967296).toNat * 4294967296 + (c % 4294967296).toNat : Nat) : Int) = c from by omega, show (((c / 4294967296).toNat : Nat) : Int) = c / 4294967296 from by omega, show (((c % 4294967296).toNat : Nat) : Int) = c % 4294967296 from by omega, be_low4] at e
  exact e
set_option maxRecDepth 100000 in
set_option maxHeartbeats 1600000 in
theorem wrSent_any (clock t p y : Int) (B b : Nat) (v : Value) (L : List UInt8) (w : World) (hO : OutAt w B b v L) (hL : L.length ≤ 1000000) (h0 : 0 ≤ clock) (h1 : clock ≤ 1099511627776) :
    Calls Try.prog 67 #[.agg #[.int .i64 clock, .int .u32 t, .int .u32 p, .int .u32 y], .pointer (some ⟨b, 0, none⟩)] w (WroteH B b (L ++ (be clock 8 ++ be t 4 ++ be p 4 ++ be y 4)) w) := by
  have hbB := hO.2.1
  have hlt := hO.lt
  have hO3 := hO.alloc (.cells #[.int .i64 clock, .int .u32 t, .int .u32 p, .int .u32 y] 28)
  have hb3 : Below B w (w.alloc (.cells #[.int .i64 clock, .int .u32 t, .int .u32 p, .int .u32 y] 28)) := (Below.refl _ _).alloc (by omega) _
  have hq3 : Others b w (w.alloc (.cells #[.int .i64 clock, .int .u32 t, .int .u32 p, .int .u32 y] 28)) := (Others.refl _ _).alloc _
  go_enter Try.func67, Try.ntmps67
  go_wp2_with fail
  refine (u32_lit B b v L [clock / 4294967296, clock % 4294967296, t, p, y] _ 5 _ _ (by simp) hO3 rfl rfl (by simp; omega) (by simp)).mono ?_
  rintro e w5 ⟨rfl, v5, hO5, hb5, ho5⟩
  have hL5 : bes [clock / 4294967296, clock % 4294967296, t, p, y] 4 = be clock 8 ++ be t 4 ++ be p 4 ++ be y 4 := by
    rw [be_clk clock h0 h1]
    simp [bes, be_low4]
  rw [hL5] at hO5
  go_wp2
  go_end0
  exact ⟨rfl, v5, hO5, hb3.trans hb5, hq3.trans ho5⟩
end Go.Proofs.Ytkchhiiomahbaaa

