
import Derived.Test.YtcofiekfhnfjpaaSA
import Derived.Deep.CutRange
namespace Go.Proofs.Ytcofiekfhnfjpaa
open Go.RowKit
set_option linter.unusedVariables false
set_option linter.unusedSimpArgs false
attribute [local go_sem ↓] Go.wp_at_zero Go.wp_at_succ
attribute [local go_sem] rhoF_tmp rhoF_const rhoF_global rhoF_func
attribute [local go_sem] qV iV
attribute [local go_sem] qE
theorem rred_q (s t : Bool) (a b : Option Addr) (c d : Nat) (l k : List (BitVec 32)) (w : World) (h1 : l.length ≤ 300000) (h2 : k.length ≤ 300000) (ha : Rw w a l) (hb : Rw w b k) (hy : zv t (valD k) ≠ 0) :
    Calls Try.prog 44 #[.agg #[.bool s, .slice a l.length c], .agg #[.bool t, .slice b k.length d]] w (AnsN (Qv s l t k) w) := by
  rcases Int.lt_or_gt_of_ne hy with h | h
  · exact (rred_neg s t a b _ c _ d l k w rfl rfl h1 h2 ha hb h).mono fun e w' h => h.q (rn_q s t l k).1 (rn_q s t l k).2
  · exact (rred_pos s t a b _ c _ d l k w rfl rfl h1 h2 ha hb h).mono fun e w' h => h.q (rn_q s t l k).1 (rn_q s t l k).2
theorem rnorm_q (s t : Bool) (a b : Option Addr) (c d : Nat) (l k : List (BitVec 32)) (w : World) (h1 : l.length ≤ 300000) (h2 : k.length ≤ 300000) (ha : Rw w a l) (hb : Rw w b k) :
    Calls Try.prog 15 #[.agg #[.bool s, .slice a l.length c, .bool t, .slice b k.length d]] w (AnsN (Qv s l t k) w) := by
  exact (rnorm_any s t a b _ c _ d l k w rfl rfl h1 h2 ha hb).mono fun e w' h => h.q (rn_q s t l k).1 (rn_q s t l k).2
theorem sz1 {s t : Bool} {l k : List (BitVec 32)} (h1 : l.length ≤ 100000) (h2 : k.length ≤ 100000) : Sz (Qv s l t k) 100000 := sz_Qv h1 h2 (by omega)
theorem sgV_ne3 {t : Bool} {k : List (BitVec 32)} (h : zv t (valD k) ≠ 0) : (sgV t (valD k) == 0) = false := by rw [sgV_sign]; exact sgn_ne h
theorem rnew_q (s t : Bool) (a b : Option Addr) (c d : Nat) (l k : List (BitVec 32)) (w : World) (h1 : l.length ≤ 100000) (h2 : k.length ≤ 100000) (ha : Rw w a l) (hb : Rw w b k) (hy : zv t (valD k) ≠ 0) :
    Calls Try.prog 12 #[.agg #[.bool s, .slice a l.length c], .agg #[.bool t, .slice b k.length d]] w (AnsF (Qv s l t k) w) := by
  exact rnew_w s t a b c d l k w ha hb _ (sgV_ne3 hy) _ _ _ _ (fun W h => isign_any t b _ d k W rfl (by omega) h) (fun W p q => rred_q s t a b c d l k W (by omega) (by omega) p q hy)
theorem rnew_z (s t : Bool) (a b : Option Addr) (c d : Nat) (l k : List (BitVec 32)) (w : World) (h1 : l.length ≤ 100000) (h2 : k.length ≤ 100000) (ha : Rw w a l) (hb : Rw w b k) (hy : zv t (valD k) = 0) :
    Calls Try.prog 12 #[.agg #[.bool s, .slice a l.length c], .agg #[.bool t, .slice b k.length d]] w fun e w' => e = .returned (.tuple #[.agg #[.bool false, .slice none 0 0, .bool false, .slice none 0 0], .int .i64 9]) ∧ Below w.heap.size w w' := by
  refine rnew_no s t a b c d l k w ha hb (fun W h => ?_)
  have := isign_any t b _ d k W rfl (by omega) h
  rw [sgV_sign, hy] at this
  exact this
theorem rbl_q (s t : Bool) (a b : Option Addr) (c d : Nat) (l k : List (BitVec 32)) (w : World) (h1 : l.length ≤ 100000) (h2 : k.length ≤ 100000) (ha : Rw w a l) (hb : Rw w b k) :
    ∃ C, IsB2 (Qv s l t k) C ∧ Calls Try.prog 19 #[.agg #[.bool s, .slice a l.length c, .bool t, .slice b k.length d]] w fun e w' => e = .returned (.int .i64 (C : Int)) ∧ Below w.heap.size w w' := by
  obtain ⟨A, hA⟩ := bl_ex (Qv s l t k).num.natAbs
  obtain ⟨B, hB⟩ := bl_ex (Qv s l t k).den
  obtain ⟨m1, m2, m3, m4⟩ := max_ways A B
  obtain ⟨y1, y2⟩ := sz_len (sz1 (s := s) (t := t) h1 h2)
  refine ⟨max A B, ⟨A, B, hA, hB, rfl⟩, rbl_w s t a b c d l k w ha hb _ _ _ _ A B _ m1 m2 m3 m4 (fun W p q => rnorm_q s t a b c d l k W (by omega) (by omega) p q) (fun W v n p => ?_) (fun W v n p => ?_)⟩
  · refine (qbl2_any _ v _ n _ W rfl (by omega) p).mono fun e w' ⟨b1, e1, e2, e3⟩ => ⟨?_, e3⟩
    have e4 : IsBl (Qv s l t k).num.natAbs b1 := by have := e2; unfold qX at this; rwa [valD_canon] at this
    rw [e1, isBl_uniq e4 hA]
  · refine (qbl2_any _ v _ n _ W rfl (by omega) p).mono fun e w' ⟨b1, e1, e2, e3⟩ => ⟨?_, e3⟩
    have e4 : IsBl (Qv s l t k).den b1 := by have := e2; unfold qY at this; rwa [valD_canon, Int.natAbs_natCast] at this
    rw [e1, isBl_uniq e4 hB]
end Go.Proofs.Ytcofiekfhnfjpaa
