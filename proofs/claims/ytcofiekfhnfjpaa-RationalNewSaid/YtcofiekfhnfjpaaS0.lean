
import Derived.Test.YtcofiekfhnfjpaaNtp
import Derived.Test.YtcofiekfhnfjpaaUB
import Derived.Test.YtcofiekfhnfjpaaJB
namespace Go.Proofs.Ytcofiekfhnfjpaa
open Go.RowKit
set_option linter.unusedVariables false
set_option linter.unusedSimpArgs false
attribute [local go_sem ↓] Go.wp_at_zero Go.wp_at_succ
theorem rn_rat_pos {x y : Int} (h : 0 < y) : rnN x y = (Rat.divInt x y).num ∧ rnD x y = ((Rat.divInt x y).den : Int) := by
  obtain ⟨h1, h2⟩ := rn_pos (n := x) h
  obtain ⟨m, hm⟩ : ∃ m : Nat, y = (m : Int) := ⟨y.toNat, by omega⟩
  subst hm
  have e : Rat.divInt x (m : Int) = mkRat x m := rfl
  have hm0 : m ≠ 0 := by omega
  rw [h1, h2, e, Rat.mkRat_def, dif_neg hm0]
  rw [Rat.num_normalize, Rat.den_normalize]
  rw [Int.natAbs_natCast]
  refine ⟨?_, rfl⟩
  rcases Int.lt_or_le x 0 with h3 | h3
  · rw [decide_eq_true h3]
    obtain ⟨k, hk⟩ : ∃ k : Nat, x = -(k : Int) := ⟨x.natAbs, by omega⟩
    subst hk
    rw [Int.natAbs_neg, Int.natAbs_natCast]
    show -((k / k.gcd m : Nat) : Int) = _
    rw [Int.neg_ediv_of_dvd (Int.natCast_dvd_natCast.2 (Nat.gcd_dvd_left k m))]
    simp
  · rw [decide_eq_false (by omega)]
    obtain ⟨k, hk⟩ : ∃ k : Nat, x = (k : Int) := ⟨x.natAbs, by omega⟩
    subst hk
    rw [Int.natAbs_natCast]
    show ((k / k.gcd m : Nat) : Int) = _
    simp
theorem rn_rat (x y : Int) : rnN x y = (Rat.divInt x y).num ∧ rnD x y = ((Rat.divInt x y).den : Int) := by
  rcases Int.lt_trichotomy y 0 with h | h | h
  · have := rn_rat_pos (x := -x) (y := -y) (by omega)
    rw [Rat.neg_divInt_neg] at this
    obtain ⟨a1, a2⟩ := rn_neg (n := x) h
    obtain ⟨b1, b2⟩ := rn_pos (n := -x) (d := -y) (by omega)
    rw [a1, a2, ← b1, ← b2, this.1, this.2]
    exact ⟨rfl, rfl⟩
  · subst h
    unfold rnN rnD
    rw [if_pos rfl, if_pos rfl, Rat.divInt_zero]
    exact ⟨rfl, rfl⟩
  · exact rn_rat_pos h
theorem pq (x y : Int) : Rat.divInt (pN x y) (pD y) = Rat.divInt x y := by
  unfold pN pD
  by_cases h : y = 0
  · rw [if_pos h, if_pos h, h, Rat.divInt_zero, Rat.zero_divInt]
  · rw [if_neg h, if_neg h]
    by_cases h2 : y < 0
    · rw [if_pos h2, if_pos h2, Rat.neg_divInt_neg]
    · rw [if_neg h2, if_neg h2]
def cmpR (p q : Rat) : Int := (p.num * q.den - q.num * p.den).sign
theorem cmpR_zero (p q : Rat) : cmpR p q = 0 ↔ p = q := by
  unfold cmpR
  rw [Int.sign_eq_zero_iff_zero]
  constructor
  · intro h
    rw [← Rat.num_divInt_den p, ← Rat.num_divInt_den q]
    rw [Rat.divInt_eq_divInt_iff (by have := p.den_nz; omega) (by have := q.den_nz; omega)]
    omega
  · intro h
    rw [h]; omega
theorem sign_of_scale {a b c d : Int} (hc : 0 < c) (hd : 0 < d) (h : a * c = b * d) : a.sign = b.sign := by
  have e := congrArg Int.sign h
  rw [Int.sign_mul, Int.sign_mul, Int.sign_eq_one_of_pos hc, Int.sign_eq_one_of_pos hd] at e
  omega
theorem cr_of {n d : Int} (hd : 0 < d) : (Rat.divInt n d).num * d = n * (Rat.divInt n d).den := by
  have h := Rat.num_divInt_den (Rat.divInt n d)
  have hz : ((Rat.divInt n d).den : Int) ≠ 0 := by have := (Rat.divInt n d).den_nz; omega
  exact (Rat.divInt_eq_divInt_iff hz (Int.ne_of_gt hd)).1 h
theorem cmp_rat (x y u v : Int) : (pN x y * pD v - pN u v * pD y).sign = cmpR (Rat.divInt x y) (Rat.divInt u v) := by
  have hb := pD_pos y
  have hd := pD_pos v
  have c1 := cr_of (n := pN x y) hb
  have c2 := cr_of (n := pN u v) hd
  rw [pq] at c1 c2
  unfold cmpR
  have p1 : (0 : Int) < (Rat.divInt x y).den := by have := (Rat.divInt x y).den_nz; omega
  have p2 : (0 : Int) < (Rat.divInt u v).den := by have := (Rat.divInt u v).den_nz; omega
  obtain ⟨a, ha⟩ : ∃ a, pN x y = a := ⟨_, rfl⟩
  obtain ⟨b, hbb⟩ : ∃ a, pD y = a := ⟨_, rfl⟩
  obtain ⟨c, hc⟩ : ∃ a, pN u v = a := ⟨_, rfl⟩
  obtain ⟨d, hdd⟩ : ∃ a, pD v = a := ⟨_, rfl⟩
  obtain ⟨N1, hN1⟩ : ∃ a, (Rat.divInt x y).num = a := ⟨_, rfl⟩
  obtain ⟨D1, hD1⟩ : ∃ a : Int, ((Rat.divInt x y).den : Int) = a := ⟨_, rfl⟩
  obtain ⟨N2, hN2⟩ : ∃ a, (Rat.divInt u v).num = a := ⟨_, rfl⟩
  obtain ⟨D2, hD2⟩ : ∃ a : Int, ((Rat.divInt u v).den : Int) = a := ⟨_, rfl⟩
  rw [ha, hbb, hN1, hD1] at c1
  rw [hc, hdd, hN2, hD2] at c2
  rw [ha, hbb, hc, hdd, hN1, hD1, hN2, hD2]
  rw [hD1] at p1
  rw [hD2] at p2
  rw [hbb] at hb
  rw [hdd] at hd
  refine sign_of_scale (c := D1 * D2) (d := b * d) (Int.mul_pos p1 p2) (Int.mul_pos hb hd) ?_
  grind
theorem drZ_scale {x y c : Int} (hc : c ≠ 0) : drZ (x * c) (y * c) = drZ x y := by
  unfold drZ
  have e1 : (decide ((x * c).sign * (y * c).sign < 0)) = decide (x.sign * y.sign < 0) := by
    rw [decide_eq_decide, Int.sign_mul, Int.sign_mul]
    have : c.sign * c.sign = 1 := by
      rcases Int.lt_or_gt_of_ne hc with h | h
      · rw [Int.sign_eq_neg_one_of_neg h]; rfl
      · rw [Int.sign_eq_one_of_pos h]; rfl
    have e : x.sign * c.sign * (y.sign * c.sign) = x.sign * y.sign * (c.sign * c.sign) := by simp only [Int.mul_assoc, Int.mul_left_comm, Int.mul_comm]
    rw [e, this, Int.mul_one]
  rw [e1]
  congr 1
  rw [Int.natAbs_mul, Int.natAbs_mul, ← Nat.add_mul, ← Nat.add_mul, ← Nat.add_mul]
  exact Nat.mul_div_mul_right _ _ (by omega)
theorem rn_scale {x y : Int} (hy : y ≠ 0) : ∃ c : Int, c ≠ 0 ∧ x = (Rat.divInt x y).num * c ∧ y = (Rat.divInt x y).den * c := by
  have hd : ((Rat.divInt x y).den : Int) ≠ 0 := by have := (Rat.divInt x y).den_nz; omega
  have h : x * (Rat.divInt x y).den = (Rat.divInt x y).num * y := ((Rat.divInt_eq_divInt_iff hy hd).1 (Rat.num_divInt_den (Rat.divInt x y)).symm)
  have hcop := (Rat.divInt x y).reduced
  have hdv : ((Rat.divInt x y).den : Int) ∣ y := by
    rw [← Int.natAbs_dvd_natAbs, Int.natAbs_natCast]
    refine Nat.Coprime.dvd_of_dvd_mul_left (Nat.Coprime.symm hcop) ?_
    rw [← Int.natAbs_mul, ← h, Int.natAbs_mul, Int.natAbs_natCast]
    exact Nat.dvd_mul_left _ _
  obtain ⟨c, hc⟩ := hdv
  refine ⟨c, ?_, ?_, hc⟩
  · intro h0
    rw [h0, Int.mul_zero] at hc
    exact hy hc
  · apply Int.eq_of_mul_eq_mul_right hd
    rw [h]
    obtain ⟨N, hN⟩ : ∃ N, (Rat.divInt x y).num = N := ⟨_, rfl⟩
    obtain ⟨D, hD⟩ : ∃ D : Int, ((Rat.divInt x y).den : Int) = D := ⟨_, rfl⟩
    rw [hN, hD]
    rw [hD] at hc
    rw [hc, Int.mul_assoc, Int.mul_comm c D]
theorem round_rat {x y : Int} (hy : y ≠ 0) : drZ x y = drZ (Rat.divInt x y).num (Rat.divInt x y).den := by
  obtain ⟨c, h0, h1, h2⟩ := rn_scale (x := x) hy
  obtain ⟨N, hN⟩ : ∃ N, (Rat.divInt x y).num = N := ⟨_, rfl⟩
  obtain ⟨D, hD⟩ : ∃ D : Int, ((Rat.divInt x y).den : Int) = D := ⟨_, rfl⟩
  rw [hN] at h1
  rw [hD] at h2
  rw [hN, hD, h1, h2]
  exact drZ_scale h0
def rdR (q : Rat) : Int := drZ q.num q.den
def Sz (q : Rat) (n : Nat) : Prop := q.num.natAbs < pw n ∧ q.den < pw n
theorem Sz.mono {q : Rat} {n m : Nat} (h : Sz q n) (hm : n ≤ m) : Sz q m := ⟨Nat.lt_of_lt_of_le h.1 (pw_mono hm), Nat.lt_of_lt_of_le h.2 (pw_mono hm)⟩
theorem num_le (x y : Int) : (Rat.divInt x y).num.natAbs ≤ x.natAbs := by
  rw [Rat.num_divInt, Int.natAbs_ediv_of_dvd]
  · rw [Int.natAbs_mul]
    refine Nat.le_trans (Nat.div_le_self _ _) ?_
    have : y.sign.natAbs ≤ 1 := by rcases Int.lt_trichotomy y 0 with h | h | h <;> first | (rw [Int.sign_eq_neg_one_of_neg h]; decide) | (rw [h]; decide) | (rw [Int.sign_eq_one_of_pos h]; decide)
    calc y.sign.natAbs * x.natAbs ≤ 1 * x.natAbs := Nat.mul_le_mul_right _ this
      _ = x.natAbs := Nat.one_mul _
  · exact Int.dvd_mul_of_dvd_right (Int.gcd_dvd_right _ _)
theorem den_le {x y : Int} (h : y ≠ 0) : (Rat.divInt x y).den ≤ y.natAbs := by
  rw [Rat.den_divInt, if_neg h]
  exact Nat.div_le_self _ _
theorem sz_of {x y : Int} {n : Nat} (h1 : x.natAbs < pw n) (h2 : y.natAbs < pw n) (hn : 1 ≤ n) : Sz (Rat.divInt x y) n := by
  refine ⟨Nat.lt_of_le_of_lt (num_le x y) h1, ?_⟩
  by_cases h : y = 0
  · rw [h, Rat.divInt_zero]
    exact Nat.lt_of_lt_of_le (show 1 < pw 1 by decide) (pw_mono hn)
  · exact Nat.lt_of_le_of_lt (den_le h) h2
/-- The value of a rational number as it lies in memory. -/
def Qv (s : Bool) (l : List (BitVec 32)) (t : Bool) (k : List (BitVec 32)) : Rat := Rat.divInt (zv s (valD l)) (zv t (valD k))
theorem rn_q (s t : Bool) (l k : List (BitVec 32)) : rnN (zv s (valD l)) (zv t (valD k)) = (Qv s l t k).num ∧ rnD (zv s (valD l)) (zv t (valD k)) = ((Qv s l t k).den : Int) := rn_rat _ _
/-- The rows of a normalized number. -/
def qX (q : Rat) : List (BitVec 32) := canon q.num.natAbs
def qY (q : Rat) : List (BitVec 32) := canon (q.den : Int).natAbs
def qS (q : Rat) : Bool := decide (q.num < 0)
theorem den_nn (q : Rat) : decide ((q.den : Int) < 0) = false := by rw [decide_eq_false_iff_not]; omega
theorem Qv_of (q : Rat) : Qv (qS q) (qX q) false (qY q) = q := by
  unfold Qv qS qX qY
  rw [← den_nn q, zv_can2, zv_can2]
  exact Rat.num_divInt_den q
theorem sz_Qv {s t : Bool} {l k : List (BitVec 32)} {n : Nat} (h1 : l.length ≤ n) (h2 : k.length ≤ n) (hn : 1 ≤ n) : Sz (Qv s l t k) n := by
  refine sz_of ?_ ?_ hn
  · rw [zv_abs]; exact Nat.lt_of_lt_of_le (valD_lt l) (pw_mono h1)
  · rw [zv_abs]; exact Nat.lt_of_lt_of_le (valD_lt k) (pw_mono h2)
theorem sz_len {q : Rat} {n : Nat} (h : Sz q n) : (qX q).length ≤ n ∧ (qY q).length ≤ n := by
  unfold qX qY
  rw [canon_len_le, canon_len_le, Int.natAbs_natCast]
  exact h
end Go.Proofs.Ytcofiekfhnfjpaa
