
import Derived.Test.YtcofiekfhnfjpaaSA
import Derived.Deep.CutRange
namespace Go.Proofs.Ytcofiekfhnfjpaa
open Go.RowKit
set_option linter.unusedVariables false
set_option linter.unusedSimpArgs false
attribute [local go_sem ↓] Go.wp_at_zero Go.wp_at_succ
attribute [local go_sem] rhoF_tmp rhoF_const rhoF_global rhoF_func
attribute [local go_sem] qV iV
attribute [local go_sem] qE
theorem rred_q (s t : Bool) (a b : Option Addr) (c d : Nat) (l k : List (BitVec 32)) (w : World) (h1 : l.length ≤ 300000) (h2 : k.length ≤ 300000) (ha : Rw w a l) (hb : Rw w b k) (hy : zv t (valD k) ≠ 0) :
    Calls Try.prog 44 #[.agg #[.bool s, .slice a l.length c], .agg #[.bool t, .slice b k.length d]] w (AnsN (Qv s l t k) w) := by
  rcases Int.lt_or_gt_of_ne hy with h | h
  · exact (rred_neg s t a b _ c _ d l k w rfl rfl h1 h2 ha hb h).mono fun e w' h => h.q (rn_q s t l k).1 (rn_q s t l k).2
  · exact (rred_pos s t a b _ c _ d l k w rfl rfl h1 h2 ha hb h).mono fun e w' h => h.q (rn_q s t l k).1 (rn_q s t l k).2
theorem rfromI_q (x : Int) (w : World) (x0 : -9223372036854775808 ≤ x) (x1 : x ≤ 9223372036854775807) :
    Calls Try.prog 24 #[.int .i64 x] w (AnsN (x : Rat) w) := by
  exact (rfromI_any x w x0 x1).mono fun e w' h => h.q rfl rfl
theorem sgV_ne3 {t : Bool} {k : List (BitVec 32)} (h : zv t (valD k) ≠ 0) : (sgV t (valD k) == 0) = false := by rw [sgV_sign]; exact sgn_ne h
theorem rnew_q (s t : Bool) (a b : Option Addr) (c d : Nat) (l k : List (BitVec 32)) (w : World) (h1 : l.length ≤ 100000) (h2 : k.length ≤ 100000) (ha : Rw w a l) (hb : Rw w b k) (hy : zv t (valD k) ≠ 0) :
    Calls Try.prog 12 #[.agg #[.bool s, .slice a l.length c], .agg #[.bool t, .slice b k.length d]] w (AnsF (Qv s l t k) w) := by
  exact rnew_w s t a b c d l k w ha hb _ (sgV_ne3 hy) _ _ _ _ (fun W h => isign_any t b _ d k W rfl (by omega) h) (fun W p q => rred_q s t a b c d l k W (by omega) (by omega) p q hy)
theorem rnew_z (s t : Bool) (a b : Option Addr) (c d : Nat) (l k : List (BitVec 32)) (w : World) (h1 : l.length ≤ 100000) (h2 : k.length ≤ 100000) (ha : Rw w a l) (hb : Rw w b k) (hy : zv t (valD k) = 0) :
    Calls Try.prog 12 #[.agg #[.bool s, .slice a l.length c], .agg #[.bool t, .slice b k.length d]] w fun e w' => e = .returned (.tuple #[.agg #[.bool false, .slice none 0 0, .bool false, .slice none 0 0], .int .i64 9]) ∧ Below w.heap.size w w' := by
  refine rnew_no s t a b c d l k w ha hb (fun W h => ?_)
  have := isign_any t b _ d k W rfl (by omega) h
  rw [sgV_sign, hy] at this
  exact this
theorem rfri_q (x y : Int) (w : World) (x0 : -9223372036854775808 ≤ x) (x1 : x ≤ 9223372036854775807) (y0 : -9223372036854775808 ≤ y) (y1 : y ≤ 9223372036854775807) (hy : y ≠ 0) :
    Calls Try.prog 22 #[.int .i64 x, .int .i64 y] w (AnsF (Rat.divInt x y) w) := by
  refine rfri_ok x y w _ _ _ _ _ _ _ _ (fun W => (qfrom_any x x0 x1 W).mono fun e w' h => h.ans) (fun W => (qfrom_any y y0 y1 W).mono fun e w' h => h.ans) (fun W v u n m r z => ?_)
  have e : Qv (decide (x < 0)) (canon x.natAbs) (decide (y < 0)) (canon y.natAbs) = Rat.divInt x y := by unfold Qv; rw [zv_can2, zv_can2]
  have l1 := int_len x x0 x1
  have l2 := int_len y y0 y1
  rw [← e]
  exact rnew_q _ _ v u n m _ _ W (by omega) (by omega) r z (by rw [zv_can2]; exact hy)
theorem rfri_z (x y : Int) (w : World) (x0 : -9223372036854775808 ≤ x) (x1 : x ≤ 9223372036854775807) (y0 : -9223372036854775808 ≤ y) (y1 : y ≤ 9223372036854775807) (hy : y = 0) :
    Calls Try.prog 22 #[.int .i64 x, .int .i64 y] w fun e w' => e = .returned (.tuple #[.agg #[.bool false, .slice none 0 0, .bool false, .slice none 0 0], .int .i64 9]) ∧ Below w.heap.size w w' := by
  refine rfri_no x y w _ _ _ _ (fun W => (qfrom_any x x0 x1 W).mono fun e w' h => h.ans) (fun W => (qfrom_any y y0 y1 W).mono fun e w' h => h.ans) (fun W v u n m r z => ?_)
  have l1 := int_len x x0 x1
  have l2 := int_len y y0 y1
  exact rnew_z _ _ v u n m _ _ W (by omega) (by omega) r z (by rw [zv_can2]; exact hy)
end Go.Proofs.Ytcofiekfhnfjpaa
