
import Derived.Test.YtcofiekfhnfjpaaSH
import Derived.Laws.CopyOwn
import Derived.BigQuiet
import Derived.Deep.CutRange
namespace Go.Proofs.Ytcofiekfhnfjpaa
open Go.RowKit
set_option linter.unusedVariables false
set_option linter.unusedSimpArgs false
attribute [local go_sem ↓] Go.wp_at_zero Go.wp_at_succ
attribute [local go_sem] rhoF_tmp rhoF_const rhoF_global rhoF_func
attribute [local go_sem] qV iV
attribute [local go_sem] qE
theorem OwP.two {lo hi : Nat} {W : World} {X Y : List (BitVec 32)} {a b : Option Addr} {c d : Nat} (h1 : W.ownsRow lo 49 1 (.slice a X.length c) X.length (bv32 X)) (h2 : W.ownsRow lo 49 1 (.slice b Y.length d) Y.length (bv32 Y)) (hh : W.heap.size ≤ hi) (hne : ∀ p q, a = some p → b = some q → p.block ≠ q.block) : OwP [X, Y] (pk2 a c b d) lo hi W :=
  ⟨fun i Z hZ => by
    match i, hZ with
    | 0, hZ => cases hZ; exact ⟨h1, fun p hp => Nat.lt_of_lt_of_le (own_blk h1 p hp).2 hh⟩
    | 1, hZ => cases hZ; exact ⟨h2, fun p hp => Nat.lt_of_lt_of_le (own_blk h2 p hp).2 hh⟩, fun i j X Y p q hX hY hne' hp hq => by
    match i, j, hX, hY, hne' with
    | 0, 0, _, _, h => exact absurd rfl h
    | 0, 1, _, _, _ => exact hne p q hp hq
    | 1, 0, _, _, _ => exact (hne q p hq hp).symm
    | 1, 1, _, _, h => exact absurd rfl h⟩
end Go.Proofs.Ytcofiekfhnfjpaa
