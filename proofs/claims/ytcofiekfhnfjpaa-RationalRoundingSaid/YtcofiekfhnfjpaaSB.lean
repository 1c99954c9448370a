
import Derived.Test.YtcofiekfhnfjpaaSA
import Derived.Deep.CutRange
namespace Go.Proofs.Ytcofiekfhnfjpaa
open Go.RowKit
set_option linter.unusedVariables false
set_option linter.unusedSimpArgs false
attribute [local go_sem ↓] Go.wp_at_zero Go.wp_at_succ
attribute [local go_sem] rhoF_tmp rhoF_const rhoF_global rhoF_func
attribute [local go_sem] qV iV
attribute [local go_sem] qE
theorem rnorm_q (s t : Bool) (a b : Option Addr) (c d : Nat) (l k : List (BitVec 32)) (w : World) (h1 : l.length ≤ 300000) (h2 : k.length ≤ 300000) (ha : Rw w a l) (hb : Rw w b k) :
    Calls Try.prog 15 #[.agg #[.bool s, .slice a l.length c, .bool t, .slice b k.length d]] w (AnsN (Qv s l t k) w) := by
  exact (rnorm_any s t a b _ c _ d l k w rfl rfl h1 h2 ha hb).mono fun e w' h => h.q (rn_q s t l k).1 (rn_q s t l k).2
theorem neg_qXS (q : Rat) : (decide (-(zv (qS q) (valD (qX q))) < 0)) = qS (-q) ∧ canon (-(zv (qS q) (valD (qX q)))).natAbs = qX (-q) ∧ qY (-q) = qY q := by
  have e : zv (qS q) (valD (qX q)) = q.num := by unfold qS qX; exact zv_can2 _
  rw [e]
  exact ⟨rfl, rfl, rfl⟩
theorem zvX (q : Rat) : zv (qS q) (valD (qX q)) = q.num := by unfold qS qX; exact zv_can2 _
theorem zvY (q : Rat) : zv false (valD (qY q)) = (q.den : Int) := by unfold qY; rw [valD_canon]; simp [zv]
theorem den_ne (q : Rat) : (q.den : Int) ≠ 0 := by have := q.den_nz; omega
theorem sz1 {s t : Bool} {l k : List (BitVec 32)} (h1 : l.length ≤ 100000) (h2 : k.length ≤ 100000) : Sz (Qv s l t k) 100000 := sz_Qv h1 h2 (by omega)
theorem valq (q : Rat) : 0 < valD (qY q) := by have := zvY q; have h := q.den_nz; rw [zv] at this; simp at this; omega
theorem rneg_q (s t : Bool) (a b : Option Addr) (c d : Nat) (l k : List (BitVec 32)) (w : World) (h1 : l.length ≤ 100000) (h2 : k.length ≤ 100000) (ha : Rw w a l) (hb : Rw w b k) :
    Calls Try.prog 61 #[.agg #[.bool s, .slice a l.length c, .bool t, .slice b k.length d]] w (AnsN (-(Qv s l t k)) w) := by
  obtain ⟨y1, y2⟩ := sz_len (sz1 (s := s) (t := t) h1 h2)
  obtain ⟨e1, e2, e3⟩ := neg_qXS (Qv s l t k)
  have h := rneg_w s t a b c d l k w ha hb _ _ _ _ _ _ (fun W p q => rnorm_q s t a b c d l k W (by omega) (by omega) p q) (fun W v n p => (qneg_any _ v _ n _ W rfl (by omega) p).mono fun e w' h => h.ans)
  rw [e1, e2, ← e3] at h
  exact h
theorem fl_q (q : Rat) : (zv (qS q) (valD (qX q))).fdiv (zv false (valD (qY q))) = q.floor := by
  rw [zvX, zvY, ← floor_rat (den_ne q), Rat.num_divInt_den]
theorem rd_q (q : Rat) : drZ (zv (qS q) (valD (qX q))) (zv false (valD (qY q))) = rdR q := by rw [zvX, zvY]; rfl
theorem rfloor_q (s t : Bool) (a b : Option Addr) (c d : Nat) (l k : List (BitVec 32)) (w : World) (h1 : l.length ≤ 100000) (h2 : k.length ≤ 100000) (ha : Rw w a l) (hb : Rw w b k) :
    Calls Try.prog 29 #[.agg #[.bool s, .slice a l.length c, .bool t, .slice b k.length d]] w (AnsJ ((Qv s l t k).floor) w) := by
  obtain ⟨y1, y2⟩ := sz_len (sz1 (s := s) (t := t) h1 h2)
  rw [← fl_q (Qv s l t k)]
  refine rfloor_w s t a b c d l k w ha hb _ _ _ _ _ _ (fun W p q => rnorm_q s t a b c d l k W (by omega) (by omega) p q) (fun W v u n m p q => (qdm_any _ _ v u _ n _ m _ _ W rfl rfl (by omega) (by omega) p q (valq _)).mono fun e w' h => ?_)
  obtain ⟨a1, c1, a2, c2, h, o1, o2, hb⟩ := h
  exact ⟨a1, c1, _, a2, _, c2, 0, h, o1.1, hb⟩
theorem rround_q (s t : Bool) (a b : Option Addr) (c d : Nat) (l k : List (BitVec 32)) (w : World) (h1 : l.length ≤ 100000) (h2 : k.length ≤ 100000) (ha : Rw w a l) (hb : Rw w b k) :
    Calls Try.prog 31 #[.agg #[.bool s, .slice a l.length c, .bool t, .slice b k.length d]] w (AnsJ (rdR (Qv s l t k)) w) := by
  obtain ⟨y1, y2⟩ := sz_len (sz1 (s := s) (t := t) h1 h2)
  rw [← rd_q (Qv s l t k)]
  refine rround_w s t a b c d l k w ha hb _ _ _ _ _ _ (fun W p q => rnorm_q s t a b c d l k W (by omega) (by omega) p q) (fun W v u n m p q => (qdr_any _ _ v u _ n _ m _ _ W rfl rfl (by omega) (by omega) p q (valq _)).mono fun e w' h => ?_)
  obtain ⟨a1, c1, h, o1, hb⟩ := h
  exact ⟨a1, c1, 0, h, o1.1, hb⟩
theorem rceil_q (s t : Bool) (a b : Option Addr) (c d : Nat) (l k : List (BitVec 32)) (w : World) (h1 : l.length ≤ 100000) (h2 : k.length ≤ 100000) (ha : Rw w a l) (hb : Rw w b k) :
    Calls Try.prog 30 #[.agg #[.bool s, .slice a l.length c, .bool t, .slice b k.length d]] w (AnsJ (clR (Qv s l t k)) w) := by
  obtain ⟨y1, y2⟩ := sz_len (sz_neg (sz1 (s := s) (t := t) h1 h2))
  have hf : (canon ((-(Qv s l t k)).floor).natAbs).length ≤ 100001 := by
    refine canon_flen _ _ ?_
    have hz := (sz_neg (sz_Qv (s := s) (t := t) (l := l) (k := k) (n := 100000) h1 h2 (by omega))).1
    rw [Rat.floor_def]
    have h3 := Int.natAbs_ediv_le_natAbs (-(Qv s l t k)).num ((-(Qv s l t k)).den : Int)
    exact Nat.lt_of_le_of_lt h3 (Nat.lt_of_lt_of_le hz (pw_mono (by omega)))
  refine rceil_w s t a b c d l k w ha hb _ _ _ _ (decide ((-(Qv s l t k)).floor < 0)) _ (canon ((-(Qv s l t k)).floor).natAbs) _ (fun W p q => rneg_q s t a b c d l k W h1 h2 p q) (fun W v u n m p q => ?_) (fun W v n p => ?_)
  · have := rfloor_q (qS (-(Qv s l t k))) false v u n m (qX (-(Qv s l t k))) (qY (-(Qv s l t k))) W y1 y2 p q
    rw [Qv_of] at this
    exact this
  · have := (qneg_any (decide ((-(Qv s l t k)).floor < 0)) v _ n _ W rfl (by omega) p).mono fun e w' h => h.ans
    rw [Int_can] at this
    exact this
end Go.Proofs.Ytcofiekfhnfjpaa
