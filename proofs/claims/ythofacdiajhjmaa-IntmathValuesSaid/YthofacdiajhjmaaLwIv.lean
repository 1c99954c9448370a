import Derived.Test.YthofacdiajhjmaaI6
import Derived.Test.YthofacdiajhjmaaEx
import Derived.Test.YthofacdiajhjmaaRnd
import Derived.Test.YthofacdiajhjmaaRsq
import Derived.WalkKit
import Derived.WalkSpells
import Derived.WalkLawsBesides
import Derived.Below
import Derived.OpenShut
import Derived.Lib.Hide
import Derived.Deep.QuietTactic
import Derived.BigQuiet
namespace Go.Proofs.Ythofacdiajhjmaa
open Go.RowKit
set_option linter.unusedVariables false
set_option linter.unusedSimpArgs false
set_option maxRecDepth 50000 in
set_option maxHeartbeats 1000000 in
theorem intmathValues_w (n a b c : Int) (n0 : 0 ≤ n) (n1 : n ≤ 18446744073709551615) (a0 : -9223372036854775808 ≤ a) (a1 : a ≤ 9223372036854775807) (b0 : -9223372036854775808 ≤ b) (b1 : b ≤ 9223372036854775807) (c0 : -9223372036854775808 ≤ c) (c1 : c ≤ 9223372036854775807) (w : World) :
    Calls Try.prog 3 #[.int .u64 n, .int .i64 a, .agg #[.int .i64 b, .int .i64 c]] w fun e w' => e = .returned (.bool true) ∧ Below w.heap.size w w' := by
  obtain ⟨r, r0, r1, _, r2, r3, _⟩ := isqrt_int n n0 n1
  have H1 := Lib.hid (mulDivRound_any a b c a0 a1 b0 b1 c0 c1)
  have H2 := Lib.hid (rmdr_any a b c a0 a1 b0 b1 c0 c1)
  have H3 := Lib.hid (divRound_any a b a0 a1 b0 b1)
  have H4 := Lib.hid (rdivr_any a b a0 a1 b0 b1)
  have H5 := Lib.hid (sqrt_any n r n0 n1 r0 r2 r3)
  have H6 := Lib.hid (rsqrt_any n r n0 n1 r0 r2 r3)
  generalize mdrV a b c = x at *
  generalize mdrB a b c = y at *
  generalize mdrV a 1 b = z at *
  clear a0 a1 b0 b1 c0 c1 n0 n1 r0 r1 r2 r3
  go_enter Try.func3, Try.ntmps3
  go_wp2
  go_quiet (fail)
  go_wp2_with (first
    | (go_at_call 5; (with_reducible refine (H1.out _).mono ?_); rintro e w0 ⟨rfl, nd, rfl⟩)
    | (go_at_call 6; (with_reducible refine (H2.out _).mono ?_); rintro e w1 ⟨rfl, hb1⟩; have hbw1 : Below w.heap.size w w1 := bel_step (by repeat (first | with_reducible exact Below.refl _ _ | with_reducible exact (Below.refl _ _).alloc (Nat.le_refl _) _ | with_reducible apply below_drewN)) hb1; clear hb1)
    | (go_at_call 7; (with_reducible refine (H5.out _).mono ?_); rintro e w2 ⟨rfl, rfl⟩)
    | (go_at_call 8; (with_reducible refine (H6.out _).mono ?_); rintro e w2 ⟨rfl, rfl⟩)
    | (go_at_call 9; (with_reducible refine (H3.out _).mono ?_); rintro e w3 ⟨rfl, nd2, rfl⟩)
    | (go_at_call 10; (with_reducible refine (H4.out _).mono ?_); rintro e w4 ⟨rfl, hb4⟩; have hbw4 : Below w.heap.size w w4 := bel_step (by repeat (first | with_reducible exact Below.refl _ _ | with_reducible exact hbw1 | with_reducible exact (Below.refl _ _).alloc (Nat.le_refl _) _ | with_reducible apply below_drewN)) hb4; clear hb4)
    | (go_at_call 11; (with_reducible refine (example_any _).mono ?_); rintro e w5 ⟨rfl, nd3, rfl⟩))
  go_ret
  exact ⟨rfl, below_drewN hbw4 _⟩
end Go.Proofs.Ythofacdiajhjmaa
