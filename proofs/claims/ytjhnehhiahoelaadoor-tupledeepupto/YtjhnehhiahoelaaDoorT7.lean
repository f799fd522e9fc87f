/-
  Walks: spread.
-/
import Derived.Test.YtjhnehhiahoelaaDoorT6
namespace Go.Proofs.YtjhnehhiahoelaaDoor
open Go.RowKit

set_option maxRecDepth 100000 in
set_option maxHeartbeats 4000000 in
theorem spread_calls (w : World) (x : Nat) (hx : x < 18446744073709551616) : Calls Tryd.prog 33 #[.int .u64 x] w fun e w' => e = .returned (.agg #[.int .u8 ((x / 72057594037927936 % 256 : Nat) : Int), .int .u8 ((x / 281474976710656 % 256 : Nat) : Int), .int .u8 ((x / 1099511627776 % 256 : Nat) : Int), .int .u8 ((x / 4294967296 % 256 : Nat) : Int), .int .u8 ((x / 16777216 % 256 : Nat) : Int), .int .u8 ((x / 65536 % 256 : Nat) : Int), .int .u8 ((x / 256 % 256 : Nat) : Int), .int .u8 ((x % 256 : Nat) : Int)]) ∧ Same w w' := by
  go_enter Tryd.func33, Tryd.ntmps33
  go_wp2
  go_rounds 9
  go_returns
  refine ⟨?_, ((Fr.refl _ w).alloc _).alloc _⟩
  congr 2
  simp only [Array.mk.injEq, List.cons.injEq, Value.int.injEq, true_and, and_true]
  omega
end Go.Proofs.YtjhnehhiahoelaaDoor
