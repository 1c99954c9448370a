
import Derived.Test.YtcofiekfhnfjpaaNtp
import Derived.Test.YtcofiekfhnfjpaaUB
import Derived.Test.YtcofiekfhnfjpaaJB
namespace Go.Proofs.Ytcofiekfhnfjpaa
open Go.RowKit
set_option linter.unusedVariables false
set_option linter.unusedSimpArgs false
attribute [local go_sem ↓] Go.wp_at_zero Go.wp_at_succ
theorem rn_rat_pos {x y : Int} (h : 0 < y) : rnN x y = (Rat.divInt x y).num ∧ rnD x y = ((Rat.divInt x y).den : Int) := by
  obtain ⟨h1, h2⟩ := rn_pos (n := x) h
  obtain ⟨m, hm⟩ : ∃ m : Nat, y = (m : Int) := ⟨y.toNat, by omega⟩
  subst hm
  have e : Rat.divInt x (m : Int) = mkRat x m := rfl
  have hm0 : m ≠ 0 := by omega
  rw [h1, h2, e, Rat.mkRat_def, dif_neg hm0]
  rw [Rat.num_normalize, Rat.den_normalize]
  rw [Int.natAbs_natCast]
  refine ⟨?_, rfl⟩
  rcases Int.lt_or_le x 0 with h3 | h3
  · rw [decide_eq_true h3]
    obtain ⟨k, hk⟩ : ∃ k : Nat, x = -(k : Int) := ⟨x.natAbs, by omega⟩
    subst hk
    rw [Int.natAbs_neg, Int.natAbs_natCast]
    show -((k / k.gcd m : Nat) : Int) = _
    rw [Int.neg_ediv_of_dvd (Int.natCast_dvd_natCast.2 (Nat.gcd_dvd_left k m))]
    simp
  · rw [decide_eq_false (by omega)]
    obtain ⟨k, hk⟩ : ∃ k : Nat, x = (k : Int) := ⟨x.natAbs, by omega⟩
    subst hk
    rw [Int.natAbs_natCast]
    show ((k / k.gcd m : Nat) : Int) = _
    simp
theorem rn_rat (x y : Int) : rnN x y = (Rat.divInt x y).num ∧ rnD x y = ((Rat.divInt x y).den : Int) := by
  rcases Int.lt_trichotomy y 0 with h | h | h
  · have := rn_rat_pos (x := -x) (y := -y) (by omega)
    rw [Rat.neg_divInt_neg] at this
    obtain ⟨a1, a2⟩ := rn_neg (n := x) h
    obtain ⟨b1, b2⟩ := rn_pos (n := -x) (d := -y) (by omega)
    rw [a1, a2, ← b1, ← b2, this.1, this.2]
    exact ⟨rfl, rfl⟩
  · subst h
    unfold rnN rnD
    rw [if_pos rfl, if_pos rfl, Rat.divInt_zero]
    exact ⟨rfl, rfl⟩
  · exact rn_rat_pos h
theorem pq (x y : Int) : Rat.divInt (pN x y) (pD y) = Rat.divInt x y := by
  unfold pN pD
  by_cases h : y = 0
  · rw [if_pos h, if_pos h, h, Rat.divInt_zero, Rat.zero_divInt]
  · rw [if_neg h, if_neg h]
    by_cases h2 : y < 0
    · rw [if_pos h2, if_pos h2, Rat.neg_divInt_neg]
    · rw [if_neg h2, if_neg h2]
theorem pq_add (x y u v : Int) : Rat.divInt (pN x y * pD v + pN u v * pD y) (pD y * pD v) = Rat.divInt x y + Rat.divInt u v := by
  rw [← pq x y, ← pq u v, Rat.divInt_add_divInt _ _ (Int.ne_of_gt (pD_pos y)) (Int.ne_of_gt (pD_pos v))]
def cmpR (p q : Rat) : Int := (p.num * q.den - q.num * p.den).sign
theorem cmpR_zero (p q : Rat) : cmpR p q = 0 ↔ p = q := by
  unfold cmpR
  rw [Int.sign_eq_zero_iff_zero]
  constructor
  · intro h
    rw [← Rat.num_divInt_den p, ← Rat.num_divInt_den q]
    rw [Rat.divInt_eq_divInt_iff (by have := p.den_nz; omega) (by have := q.den_nz; omega)]
    omega
  · intro h
    rw [h]; omega
theorem cmpR_lt (p q : Rat) : cmpR p q < 0 ↔ p < q := by
  unfold cmpR
  rw [Int.sign_neg_iff, Rat.lt_iff]
  omega
theorem cmpR_gt (p q : Rat) : 0 < cmpR p q ↔ q < p := by
  unfold cmpR
  rw [Int.sign_pos_iff, Rat.lt_iff]
  omega
theorem sign_of_scale {a b c d : Int} (hc : 0 < c) (hd : 0 < d) (h : a * c = b * d) : a.sign = b.sign := by
  have e := congrArg Int.sign h
  rw [Int.sign_mul, Int.sign_mul, Int.sign_eq_one_of_pos hc, Int.sign_eq_one_of_pos hd] at e
  omega
theorem cr_of {n d : Int} (hd : 0 < d) : (Rat.divInt n d).num * d = n * (Rat.divInt n d).den := by
  have h := Rat.num_divInt_den (Rat.divInt n d)
  have hz : ((Rat.divInt n d).den : Int) ≠ 0 := by have := (Rat.divInt n d).den_nz; omega
  exact (Rat.divInt_eq_divInt_iff hz (Int.ne_of_gt hd)).1 h
theorem cmp_rat (x y u v : Int) : (pN x y * pD v - pN u v * pD y).sign = cmpR (Rat.divInt x y) (Rat.divInt u v) := by
  have hb := pD_pos y
  have hd := pD_pos v
  have c1 := cr_of (n := pN x y) hb
  have c2 := cr_of (n := pN u v) hd
  rw [pq] at c1 c2
  unfold cmpR
  have p1 : (0 : Int) < (Rat.divInt x y).den := by have := (Rat.divInt x y).den_nz; omega
  have p2 : (0 : Int) < (Rat.divInt u v).den := by have := (Rat.divInt u v).den_nz; omega
  obtain ⟨a, ha⟩ : ∃ a, pN x y = a := ⟨_, rfl⟩
  obtain ⟨b, hbb⟩ : ∃ a, pD y = a := ⟨_, rfl⟩
  obtain ⟨c, hc⟩ : ∃ a, pN u v = a := ⟨_, rfl⟩
  obtain ⟨d, hdd⟩ : ∃ a, pD v = a := ⟨_, rfl⟩
  obtain ⟨N1, hN1⟩ : ∃ a, (Rat.divInt x y).num = a := ⟨_, rfl⟩
  obtain ⟨D1, hD1⟩ : ∃ a : Int, ((Rat.divInt x y).den : Int) = a := ⟨_, rfl⟩
  obtain ⟨N2, hN2⟩ : ∃ a, (Rat.divInt u v).num = a := ⟨_, rfl⟩
  obtain ⟨D2, hD2⟩ : ∃ a : Int, ((Rat.divInt u v).den : Int) = a := ⟨_, rfl⟩
  rw [ha, hbb, hN1, hD1] at c1
  rw [hc, hdd, hN2, hD2] at c2
  rw [ha, hbb, hc, hdd, hN1, hD1, hN2, hD2]
  rw [hD1] at p1
  rw [hD2] at p2
  rw [hbb] at hb
  rw [hdd] at hd
  refine sign_of_scale (c := D1 * D2) (d := b * d) (Int.mul_pos p1 p2) (Int.mul_pos hb hd) ?_
  grind
theorem floor_rat {x y : Int} (hy : y ≠ 0) : (Rat.divInt x y).floor = x.fdiv y := by
  rw [Rat.floor_def]
  rcases Int.lt_or_gt_of_ne hy with h | h
  · have e : x.fdiv y = (-x).fdiv (-y) := by rw [Int.neg_fdiv_neg]
    rw [e, ← Rat.neg_divInt_neg, Int.fdiv_eq_ediv_of_nonneg _ (by omega)]
    have c := cr_of (n := -x) (d := -y) (by omega)
    have p1 : (0 : Int) < (Rat.divInt (-x) (-y)).den := by have := (Rat.divInt (-x) (-y)).den_nz; omega
    rw [← Int.mul_ediv_mul_of_pos_left _ _ (show (0 : Int) < -y by omega), c, Int.mul_comm ((Rat.divInt (-x) (-y)).den : Int) (-y), Int.mul_ediv_mul_of_pos_left _ _ p1]
  · rw [Int.fdiv_eq_ediv_of_nonneg _ (by omega)]
    have c := cr_of (n := x) (d := y) (by omega)
    have p1 : (0 : Int) < (Rat.divInt x y).den := by have := (Rat.divInt x y).den_nz; omega
    rw [← Int.mul_ediv_mul_of_pos_left _ _ (show (0 : Int) < y by omega), c, Int.mul_comm ((Rat.divInt x y).den : Int) y, Int.mul_ediv_mul_of_pos_left _ _ p1]

theorem drZ_scale {x y c : Int} (hc : c ≠ 0) : drZ (x * c) (y * c) = drZ x y := by
  unfold drZ
  have e1 : (decide ((x * c).sign * (y * c).sign < 0)) = decide (x.sign * y.sign < 0) := by
    rw [decide_eq_decide, Int.sign_mul, Int.sign_mul]
    have : c.sign * c.sign = 1 := by
      rcases Int.lt_or_gt_of_ne hc with h | h
      · rw [Int.sign_eq_neg_one_of_neg h]; rfl
      · rw [Int.sign_eq_one_of_pos h]; rfl
    have e : x.sign * c.sign * (y.sign * c.sign) = x.sign * y.sign * (c.sign * c.sign) := by simp only [Int.mul_assoc, Int.mul_left_comm, Int.mul_comm]
    rw [e, this, Int.mul_one]
  rw [e1]
  congr 1
  rw [Int.natAbs_mul, Int.natAbs_mul, ← Nat.add_mul, ← Nat.add_mul, ← Nat.add_mul]
  exact Nat.mul_div_mul_right _ _ (by omega)
theorem rn_scale {x y : Int} (hy : y ≠ 0) : ∃ c : Int, c ≠ 0 ∧ x = (Rat.divInt x y).num * c ∧ y = (Rat.divInt x y).den * c := by
  have hd : ((Rat.divInt x y).den : Int) ≠ 0 := by have := (Rat.divInt x y).den_nz; omega
  have h : x * (Rat.divInt x y).den = (Rat.divInt x y).num * y := ((Rat.divInt_eq_divInt_iff hy hd).1 (Rat.num_divInt_den (Rat.divInt x y)).symm)
  have hcop := (Rat.divInt x y).reduced
  have hdv : ((Rat.divInt x y).den : Int) ∣ y := by
    rw [← Int.natAbs_dvd_natAbs, Int.natAbs_natCast]
    refine Nat.Coprime.dvd_of_dvd_mul_left (Nat.Coprime.symm hcop) ?_
    rw [← Int.natAbs_mul, ← h, Int.natAbs_mul, Int.natAbs_natCast]
    exact Nat.dvd_mul_left _ _
  obtain ⟨c, hc⟩ := hdv
  refine ⟨c, ?_, ?_, hc⟩
  · intro h0
    rw [h0, Int.mul_zero] at hc
    exact hy hc
  · apply Int.eq_of_mul_eq_mul_right hd
    rw [h]
    obtain ⟨N, hN⟩ : ∃ N, (Rat.divInt x y).num = N := ⟨_, rfl⟩
    obtain ⟨D, hD⟩ : ∃ D : Int, ((Rat.divInt x y).den : Int) = D := ⟨_, rfl⟩
    rw [hN, hD]
    rw [hD] at hc
    rw [hc, Int.mul_assoc, Int.mul_comm c D]
theorem round_rat {x y : Int} (hy : y ≠ 0) : drZ x y = drZ (Rat.divInt x y).num (Rat.divInt x y).den := by
  obtain ⟨c, h0, h1, h2⟩ := rn_scale (x := x) hy
  obtain ⟨N, hN⟩ : ∃ N, (Rat.divInt x y).num = N := ⟨_, rfl⟩
  obtain ⟨D, hD⟩ : ∃ D : Int, ((Rat.divInt x y).den : Int) = D := ⟨_, rfl⟩
  rw [hN] at h1
  rw [hD] at h2
  rw [hN, hD, h1, h2]
  exact drZ_scale h0
def rdR (q : Rat) : Int := drZ q.num q.den
theorem rdR_bd (q : Rat) : 2 * (q.num - rdR q * q.den) ≤ q.den ∧ -(q.den : Int) ≤ 2 * (q.num - rdR q * q.den) := by
  unfold rdR drZ
  have hd : 0 < q.den := by have := q.den_nz; omega
  obtain ⟨n, hn⟩ : ∃ n, q.num = n := ⟨_, rfl⟩
  obtain ⟨d, hdd⟩ : ∃ d, q.den = d := ⟨_, rfl⟩
  rw [hn, hdd]
  rw [hdd] at hd
  rw [Int.natAbs_natCast]
  have h1 := Nat.div_add_mod (n.natAbs + n.natAbs + d) (d + d)
  have h2 := Nat.mod_lt (n.natAbs + n.natAbs + d) (show 0 < d + d by omega)
  obtain ⟨r, hr⟩ : ∃ r, (n.natAbs + n.natAbs + d) / (d + d) = r := ⟨_, rfl⟩
  rw [hr] at h1 ⊢
  obtain ⟨e, he⟩ : ∃ e, (n.natAbs + n.natAbs + d) % (d + d) = e := ⟨_, rfl⟩
  rw [he] at h1 h2
  have h3 : (d + d) * r = 2 * (r * d) := by rw [← Nat.two_mul, Nat.mul_assoc, Nat.mul_comm d r]
  rw [h3] at h1
  by_cases hs : n.sign * (d : Int).sign < 0
  · rw [decide_eq_true hs]
    have h5 := opp_iff.1 hs
    show 2 * (n - -(r : Int) * d) ≤ d ∧ -(d : Int) ≤ 2 * (n - -(r : Int) * d)
    rw [Int.neg_mul, ← Int.natCast_mul]
    omega
  · rw [decide_eq_false hs]
    have h5 := mt opp_iff.2 hs
    show 2 * (n - (r : Int) * d) ≤ d ∧ -(d : Int) ≤ 2 * (n - (r : Int) * d)
    rw [← Int.natCast_mul]
    omega
theorem off_eq (q : Rat) (m : Int) : q + q - ((m : Rat) + (m : Rat)) = Rat.divInt (2 * (q.num - m * q.den)) q.den := by
  have hd : (q.den : Int) ≠ 0 := by have := q.den_nz; omega
  have e : q = Rat.divInt q.num q.den := (Rat.num_divInt_den q).symm
  have em : (m : Rat) = Rat.divInt (m * q.den) q.den := by
    rw [← Int.one_mul (q.den : Int), ← Int.mul_assoc, Int.mul_one, Rat.divInt_mul_right hd]
    exact (Rat.num_divInt_den (m : Rat)).symm
  have e2 : q - (m : Rat) = Rat.divInt (q.num - m * q.den) q.den := by
    rw [em]
    conv => lhs; lhs; rw [e]
    rw [Rat.divInt_sub_divInt _ _ hd hd, Rat.divInt_eq_divInt_iff (by intro h; exact hd (by rcases Int.mul_eq_zero.1 h with h | h <;> exact h)) hd]
    grind
  have e3 : q + q - ((m : Rat) + (m : Rat)) = (q - m) + (q - m) := by grind
  rw [e3, e2, Rat.divInt_add_divInt _ _ hd hd, Rat.divInt_eq_divInt_iff (by intro h; exact hd (by rcases Int.mul_eq_zero.1 h with h | h <;> exact h)) hd]
  grind
theorem near_le (q : Rat) : q + q - ((rdR q : Rat) + (rdR q : Rat)) ≤ 1 ∧ -1 ≤ q + q - ((rdR q : Rat) + (rdR q : Rat)) := by
  have hd : (q.den : Int) ≠ 0 := by have := q.den_nz; omega
  have hp : (0 : Int) < q.den := by have := q.den_nz; omega
  obtain ⟨h1, h2⟩ := rdR_bd q
  rw [off_eq]
  have e1 : (1 : Rat) = Rat.divInt q.den q.den := by rw [Rat.divInt_self' hd]
  constructor
  · rw [Rat.le_iff_sub_nonneg]
    conv => rhs; lhs; rw [e1]
    rw [Rat.divInt_sub_divInt _ _ hd hd]
    have : (q.den : Int) * q.den - 2 * (q.num - rdR q * q.den) * q.den = (q.den - 2 * (q.num - rdR q * q.den)) * q.den := by rw [Int.sub_mul]
    rw [this, Rat.divInt_mul_right hd]
    exact Rat.divInt_nonneg (by omega) (by omega)
  · rw [Rat.le_iff_sub_nonneg]
    conv => rhs; rhs; rw [e1]
    rw [Rat.neg_divInt, Rat.divInt_sub_divInt _ _ hd hd]
    have : 2 * (q.num - rdR q * q.den) * q.den - -(q.den : Int) * q.den = (2 * (q.num - rdR q * q.den) - -(q.den : Int)) * q.den := by rw [Int.sub_mul]
    rw [this, Rat.divInt_mul_right hd]
    exact Rat.divInt_nonneg (by omega) (by omega)
def clR (q : Rat) : Int := -(-q).floor
theorem clR_bd (q : Rat) : ¬ ((clR q : Rat) < q) ∧ ¬ (q < (q.floor : Rat)) ∧ ¬ (1 < (clR q : Rat) - (q.floor : Rat)) := by
  have h1 := Rat.floor_le q
  have e : clR q = q.ceil := (Rat.ceil_eq_neg_floor_neg q).symm
  have h2 := @Rat.le_ceil q
  have h3 := Rat.lt_floor_add_one q
  rw [e]
  refine ⟨Rat.not_lt.2 h2, Rat.not_lt.2 h1, Rat.not_lt.2 ?_⟩
  have h4 : q.ceil ≤ q.floor + 1 := Rat.ceil_le_iff.2 (Rat.le_of_lt h3)
  have h5 := Rat.intCast_le_intCast.2 h4
  rw [Rat.intCast_add] at h5
  grind
def Sz (q : Rat) (n : Nat) : Prop := q.num.natAbs < pw n ∧ q.den < pw n
theorem Sz.mono {q : Rat} {n m : Nat} (h : Sz q n) (hm : n ≤ m) : Sz q m := ⟨Nat.lt_of_lt_of_le h.1 (pw_mono hm), Nat.lt_of_lt_of_le h.2 (pw_mono hm)⟩
theorem num_le (x y : Int) : (Rat.divInt x y).num.natAbs ≤ x.natAbs := by
  rw [Rat.num_divInt, Int.natAbs_ediv_of_dvd]
  · rw [Int.natAbs_mul]
    refine Nat.le_trans (Nat.div_le_self _ _) ?_
    have : y.sign.natAbs ≤ 1 := by rcases Int.lt_trichotomy y 0 with h | h | h <;> first | (rw [Int.sign_eq_neg_one_of_neg h]; decide) | (rw [h]; decide) | (rw [Int.sign_eq_one_of_pos h]; decide)
    calc y.sign.natAbs * x.natAbs ≤ 1 * x.natAbs := Nat.mul_le_mul_right _ this
      _ = x.natAbs := Nat.one_mul _
  · exact Int.dvd_mul_of_dvd_right (Int.gcd_dvd_right _ _)
theorem den_le {x y : Int} (h : y ≠ 0) : (Rat.divInt x y).den ≤ y.natAbs := by
  rw [Rat.den_divInt, if_neg h]
  exact Nat.div_le_self _ _
theorem sz_of {x y : Int} {n : Nat} (h1 : x.natAbs < pw n) (h2 : y.natAbs < pw n) (hn : 1 ≤ n) : Sz (Rat.divInt x y) n := by
  refine ⟨Nat.lt_of_le_of_lt (num_le x y) h1, ?_⟩
  by_cases h : y = 0
  · rw [h, Rat.divInt_zero]
    exact Nat.lt_of_lt_of_le (show 1 < pw 1 by decide) (pw_mono hn)
  · exact Nat.lt_of_le_of_lt (den_le h) h2
theorem sz_add {p q : Rat} {n m : Nat} (h : Sz p n) (k : Sz q m) : Sz (p + q) (n + m + 1) := by
  rw [← Rat.num_divInt_den p, ← Rat.num_divInt_den q, Rat.divInt_add_divInt _ _ (by have := p.den_nz; omega) (by have := q.den_nz; omega)]
  refine sz_of ?_ ?_ (by omega)
  · have e1 := Nat.mul_lt_mul'' h.1 k.2
    have e2 := Nat.mul_lt_mul'' k.1 h.2
    rw [← pw_add] at e1 e2
    rw [Nat.add_comm m n] at e2
    have e3 : pw (n + m + 1) = pw (n + m) * 4294967296 := pw_add _ 1
    have e4 := Int.natAbs_add_le (p.num * (q.den : Int)) (q.num * (p.den : Int))
    rw [Int.natAbs_mul, Int.natAbs_mul, Int.natAbs_natCast, Int.natAbs_natCast] at e4
    omega
  · rw [Int.natAbs_mul, Int.natAbs_natCast, Int.natAbs_natCast]
    have e1 := Nat.mul_lt_mul'' h.2 k.2
    rw [← pw_add] at e1
    exact Nat.lt_of_lt_of_le e1 (pw_mono (by omega))
theorem sz_neg {p : Rat} {n : Nat} (h : Sz p n) : Sz (-p) n := by
  show (-p.num).natAbs < pw n ∧ p.den < pw n
  rw [Int.natAbs_neg]
  exact h
theorem sz_sub {p q : Rat} {n m : Nat} (h : Sz p n) (k : Sz q m) : Sz (p - q) (n + m + 1) := by
  rw [Rat.sub_eq_add_neg]; exact sz_add h (sz_neg k)
/-- The value of a rational number as it lies in memory. -/
def Qv (s : Bool) (l : List (BitVec 32)) (t : Bool) (k : List (BitVec 32)) : Rat := Rat.divInt (zv s (valD l)) (zv t (valD k))
theorem rn_q (s t : Bool) (l k : List (BitVec 32)) : rnN (zv s (valD l)) (zv t (valD k)) = (Qv s l t k).num ∧ rnD (zv s (valD l)) (zv t (valD k)) = ((Qv s l t k).den : Int) := rn_rat _ _
/-- The rows of a normalized number. -/
def qX (q : Rat) : List (BitVec 32) := canon q.num.natAbs
def qY (q : Rat) : List (BitVec 32) := canon (q.den : Int).natAbs
def qS (q : Rat) : Bool := decide (q.num < 0)
theorem den_nn (q : Rat) : decide ((q.den : Int) < 0) = false := by rw [decide_eq_false_iff_not]; omega
theorem Qv_of (q : Rat) : Qv (qS q) (qX q) false (qY q) = q := by
  unfold Qv qS qX qY
  rw [← den_nn q, zv_can2, zv_can2]
  exact Rat.num_divInt_den q
theorem sz_Qv {s t : Bool} {l k : List (BitVec 32)} {n : Nat} (h1 : l.length ≤ n) (h2 : k.length ≤ n) (hn : 1 ≤ n) : Sz (Qv s l t k) n := by
  refine sz_of ?_ ?_ hn
  · rw [zv_abs]; exact Nat.lt_of_lt_of_le (valD_lt l) (pw_mono h1)
  · rw [zv_abs]; exact Nat.lt_of_lt_of_le (valD_lt k) (pw_mono h2)
theorem sz_len {q : Rat} {n : Nat} (h : Sz q n) : (qX q).length ≤ n ∧ (qY q).length ≤ n := by
  unfold qX qY
  rw [canon_len_le, canon_len_le, Int.natAbs_natCast]
  exact h
end Go.Proofs.Ytcofiekfhnfjpaa
