
import Derived.Test.YtdkbmpncohhioaaDoorU2
import Derived.Test.YtdkbmpncohhioaaDoorU3
import Derived.Deep.RegionHeld3
import Derived.Deep.DrawnRows
import Derived.Deep.DeepFit
import Derived.Laws.BitsAllLaws
import Derived.StillTailTactics
/- I1 -/
namespace Go.Proofs.YtdkbmpncohhioaaDoor
open Go.RowKit
set_option linter.unusedVariables false
set_option linter.unusedSimpArgs false
attribute [local go_sem ↓] Go.wp_at_zero Go.wp_at_succ
/-- An integer of unlimited size is returned: its sign and its digits, in a row of its own. -/
def FrI (w : World) (s : Bool) (K : Nat) (e : Ending) (w' : World) : Prop := ∃ a c, e = .returned (.agg #[.bool s, .slice a (canon K).length c]) ∧ RwF w.heap.size w' a (canon K) ∧ Below w.heap.size w w'
theorem canon_len_zero {n : Nat} : (canon n).length = 0 ↔ n = 0 := by
  constructor
  · intro h
    rcases Nat.eq_zero_or_pos n with h0 | h0
    · exact h0
    · have := canon_len_pos h0
      omega
  · rintro rfl
    rw [canon_zero]; rfl
end Go.Proofs.YtdkbmpncohhioaaDoor

/- I2 -/
namespace Go.Proofs.YtdkbmpncohhioaaDoor
open Go.RowKit
set_option linter.unusedVariables false
set_option linter.unusedSimpArgs false
attribute [local go_sem ↓] Go.wp_at_zero Go.wp_at_succ
set_option maxRecDepth 50000 in
theorem two_val (n : Nat) (hn : n < 18446744073709551616) : valD [BitVec.ofNat 32 n, BitVec.ofNat 32 (n / 4294967296)] = n := by
  simp only [valD_cons, valD_nil, BitVec.toNat_ofNat]
  omega
def sgV (s : Bool) (K : Nat) : Int := if K = 0 then 0 else if s then -1 else 1
end Go.Proofs.YtdkbmpncohhioaaDoor

/- I3 -/
namespace Go.Proofs.YtdkbmpncohhioaaDoor
open Go.RowKit
set_option linter.unusedVariables false
set_option linter.unusedSimpArgs false
attribute [local go_sem ↓] Go.wp_at_zero Go.wp_at_succ
end Go.Proofs.YtdkbmpncohhioaaDoor

/- I4 -/
namespace Go.Proofs.YtdkbmpncohhioaaDoor
open Go.RowKit
set_option linter.unusedVariables false
set_option linter.unusedSimpArgs false
attribute [local go_sem ↓] Go.wp_at_zero Go.wp_at_succ
theorem fit_dbl {A n : Nat} (h : A < pw n) : (canon (A + A)).length ≤ n + 1 := by
  rw [canon_len_le, pw_succ]; omega
theorem fit_dbl2 {A B n m : Nat} (h : A < pw n) (h2 : B < pw m) (hm : m ≤ 700000) (hn : n ≤ 700000) : (canon (A + A + B)).length ≤ 700002 := by
  rw [canon_len_le]
  have e1 : pw (700000 + 2) = pw 700000 * 4294967296 * 4294967296 := by rw [pw_succ, pw_succ]
  have e2 := pw_mono hn
  have e3 := pw_mono hm
  show _ < pw (700000 + 2)
  rw [e1]
  generalize pw 700000 = x at *
  omega
theorem sgV_ne {t : Bool} {K : Nat} (h : 0 < K) : (sgV t K == 0) = false := by
  unfold sgV
  rw [if_neg (by omega)]
  cases t <;> rfl
end Go.Proofs.YtdkbmpncohhioaaDoor

