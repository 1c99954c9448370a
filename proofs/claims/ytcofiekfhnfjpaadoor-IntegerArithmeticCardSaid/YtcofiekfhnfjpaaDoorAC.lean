
import Derived.Test.YtcofiekfhnfjpaaDoorAB
namespace Go.Proofs.YtcofiekfhnfjpaaDoor
open Go.RowKit
set_option linter.unusedVariables false
set_option linter.unusedSimpArgs false
attribute [local go_sem ↓] Go.wp_at_zero Go.wp_at_succ
attribute [local go_sem] rhoF_tmp rhoF_const rhoF_global rhoF_func
attribute [local go_sem] iV
theorem len_a {z : Int} {n : Nat} (hn : n ≤ 400000) (h : z.natAbs < pw n) : (canon z.natAbs).length ≤ 400000 := Nat.le_trans ((canon_len_le _ _).2 h) hn
theorem ia_any (s t : Bool) (a b : Option Addr) (c d : Nat) (l k : List (BitVec 32)) (w : World) (ha : Rw w a l) (hb : Rw w b k) (hN : Tb w) (cap_a : l.length ≤ c) (cap_b : k.length ≤ d) :
    Calls Tryd.prog 3 #[.agg #[.bool s, .slice a l.length c], .agg #[.bool t, .slice b k.length d]] w fun e w' => e = .returned (.bool true) ∧ Below w.heap.size w w' := by
  by_cases hf : l.length ≤ 40 ∧ k.length ≤ 40
  case neg =>
    exact ia_no s t a b c d l k w hN (by simp; omega)
  have hfew : decide (∀ n ∈ [l.length, k.length], (n : Int) ≤ 40) = true := by simp; omega
  have l1 : l.length ≤ 400000 := by omega
  have l2 : k.length ≤ 400000 := by omega
  obtain ⟨x, ex⟩ : ∃ x, zv s (valD l) = x := ⟨_, rfl⟩
  obtain ⟨y, ey⟩ : ∃ y, zv t (valD k) = y := ⟨_, rfl⟩
  have bx : x.natAbs < pw 40 := by rw [← ex, zv_abs]; exact Nat.lt_of_lt_of_le (valD_lt l) (pw_mono hf.1)
  have bY : y.natAbs < pw 40 := by rw [← ey, zv_abs]; exact Nat.lt_of_lt_of_le (valD_lt k) (pw_mono hf.2)
  have pp : 4 * pw 40 ≤ pw 41 := by decide
  have bM : (x * y).natAbs < pw 80 := by
    rw [Int.natAbs_mul, show pw 80 = pw 40 * pw 40 from pw_add 40 40]
    exact Nat.mul_lt_mul'' bx bY
  have hlen : ∀ z : Int, z.natAbs < pw 41 → (canon z.natAbs).length ≤ 400000 := fun z h => len_a (by decide) h
  have nM : (canon (x * y).natAbs).length ≤ 400000 := len_a (by decide) bM
  clear bM
  generalize pw 41 = C at *
  generalize pw 40 = B at *
  have nN : (canon (-x).natAbs).length ≤ 400000 := hlen _ (by omega)
  have nA : (canon (x + y).natAbs).length ≤ 400000 := hlen _ (by omega)
  have nS : (canon (x - y).natAbs).length ≤ 400000 := hlen _ (by omega)
  have eC : (x - y).sign = (x - y).sign := rfl
  have eN : -x = -x := rfl
  have eA : x + y = x + y := rfl
  have eS : x - y = x - y := rfl
  have eM : x * y = x * y := rfl
  exact ia_w s t a b c d l k w ha hb hN cap_a cap_b hfew l1 l2 (decide ((-x) < 0)) (decide ((x + y) < 0)) (decide ((x - y) < 0)) (decide ((x * y) < 0)) (canon (-x).natAbs) (canon (x + y).natAbs) (canon (x - y).natAbs) (canon (x * y).natAbs) nN nA nS nM (x - y).sign (own_h s l l1) (own_h t k l2) (zcmp_h ex ey eC l1 l2) (qcmp_h ex ey eC l1 l2) (oneg_h ex eN l1) (oadd_h ex ey eA l1 l2) (osub_h ex ey eS l1 l2) (omul_h ex ey eM l1 l2) (qneg_h ex eN l1) (qadd_h ex ey eA l1 l2) (qsub_h ex ey eS l1 l2) (qmul_h ex ey eM l1 l2)
end Go.Proofs.YtcofiekfhnfjpaaDoor
