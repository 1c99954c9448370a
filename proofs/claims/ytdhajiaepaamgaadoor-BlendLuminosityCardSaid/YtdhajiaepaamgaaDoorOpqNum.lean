import Derived.Test.YtdhajiaepaamgaaDoorN6
namespace Go.Proofs.YtdhajiaepaamgaaDoor
set_option linter.unusedVariables false
set_option linter.unusedSimpArgs false
/- plain facts: the color modes on opaque pixels -/
theorem unc_op (v u : Int) : unc v 255 u 255 = 0 := by unfold unc; omega
theorem al_op : divN (unc 255 255 255 255 + 255 * 255) = 255 := by decide
theorem mixQ_exact {c d : Int} (hd : 0 < d) : mixQ 0 (d * c) d = (2 * c + 255) / 510 := by
  unfold mixQ
  rw [Int.zero_mul, Int.add_zero, show 2 * (d * c) + d * 255 = d * (2 * c + 255) by rw [Int.mul_add, ← Int.mul_assoc d 2 c, Int.mul_comm d 2, Int.mul_assoc], show 2 * (d * 255) = d * 510 by omega]
  exact Int.mul_ediv_mul_of_pos _ _ hd
/- a color with its own saturation and luminosity stays -/
theorem fr_self {c lo hi m k l a : Int} (hm : hi - lo = m) (hk : l - 100 * lo = k) (c0 : lo ≤ c) (c1 : c ≤ hi) (h0 : 0 ≤ lo) (h1 : hi ≤ a) (k0 : 0 ≤ k) (k1 : k ≤ 100 * m) :
    0 < frD m k m l a ∧ frN c lo hi m k m l a = frD m k m l a * c := by
  unfold frN frD
  by_cases e1 : m = 0
  · simp only [if_pos e1]; omega
  simp only [if_neg e1]
  have mp : 0 < m := by omega
  have q1 : m * k ≤ m * l := Int.mul_le_mul_of_nonneg_left (by omega) (by omega)
  rw [Int.mul_comm m l] at q1
  have n1 : ¬ l * m < m * k := by omega
  simp only [if_neg n1]
  have q2 : m * (100 * hi) ≤ m * (100 * a) := Int.mul_le_mul_of_nonneg_left (by omega) (by omega)
  have e2 : m * (100 * hi) = 100 * m * m + l * m - m * k := by
    rw [show 100 * hi = 100 * m + (l - k) by omega, Int.mul_add, Int.mul_sub, Int.mul_comm m (100 * m), Int.mul_comm m l]; omega
  have e3 : m * (100 * a) = 100 * a * m := Int.mul_comm _ _
  have n2 : ¬ 100 * a * m < 100 * m * m + l * m - m * k := by omega
  simp only [if_neg n2]
  refine ⟨by omega, ?_⟩
  have e4 : 100 * (c - lo) * m = 100 * c * m - 100 * lo * m := by rw [show 100 * (c - lo) = 100 * c - 100 * lo by omega, Int.sub_mul]
  have e5 : m * k = l * m - 100 * lo * m := by rw [← hk, Int.mul_sub, Int.mul_comm m l, Int.mul_comm m (100 * lo)]
  have e6 : 100 * m * c = 100 * c * m := by rw [Int.mul_assoc, Int.mul_comm m c, ← Int.mul_assoc]
  omega
theorem nsQ_self {x0 x1 x2 c v : Int} (h0 : 0 ≤ x0 ∧ x0 ≤ 65025) (h1 : 0 ≤ x1 ∧ x1 ≤ 65025) (h2 : 0 ≤ x2 ∧ x2 ≤ 65025) (hc : lo3 x0 x1 x2 ≤ c ∧ c ≤ hi3 x0 x1 x2) (hv : c = 255 * v) :
    nsQ x0 x1 x2 (st3 x0 x1 x2) (lm3 x0 x1 x2) (255 * 255) v 255 v 255 c = v := by
  obtain ⟨b0, b1⟩ := lm3_bd x0 x1 x2
  have sb := st3_bd h0 h1 h2
  obtain ⟨f0, f1⟩ := fr_self (c := c) (lo := lo3 x0 x1 x2) (hi := hi3 x0 x1 x2) (m := hi3 x0 x1 x2 - lo3 x0 x1 x2) (k := lm3 x0 x1 x2 - 100 * lo3 x0 x1 x2) (l := lm3 x0 x1 x2) (a := 255 * 255) rfl rfl hc.1 hc.2 (by omega) (by omega) (by omega) (by omega)
  unfold nsQ
  rw [unc_op, show st3 x0 x1 x2 = hi3 x0 x1 x2 - lo3 x0 x1 x2 from rfl, f1, mixQ_exact f0]
  omega
/- the luminosity of what is mixed -/
theorem fr_lum {x0 x1 x2 t l a : Int} : 30 * frN x0 (lo3 x0 x1 x2) (hi3 x0 x1 x2) (hi3 x0 x1 x2 - lo3 x0 x1 x2) (lm3 x0 x1 x2 - 100 * lo3 x0 x1 x2) t l a + 59 * frN x1 (lo3 x0 x1 x2) (hi3 x0 x1 x2) (hi3 x0 x1 x2 - lo3 x0 x1 x2) (lm3 x0 x1 x2 - 100 * lo3 x0 x1 x2) t l a + 11 * frN x2 (lo3 x0 x1 x2) (hi3 x0 x1 x2) (hi3 x0 x1 x2 - lo3 x0 x1 x2) (lm3 x0 x1 x2 - 100 * lo3 x0 x1 x2) t l a = l * frD (hi3 x0 x1 x2 - lo3 x0 x1 x2) (lm3 x0 x1 x2 - 100 * lo3 x0 x1 x2) t l a := by
  obtain ⟨lo, hlo⟩ : ∃ y, lo3 x0 x1 x2 = y := ⟨_, rfl⟩
  obtain ⟨hi, hhi⟩ : ∃ y, hi3 x0 x1 x2 = y := ⟨_, rfl⟩
  have hlm : lm3 x0 x1 x2 = 30 * x0 + 59 * x1 + 11 * x2 := rfl
  rw [hlo, hhi]
  obtain ⟨m, hm⟩ : ∃ y, hi - lo = y := ⟨_, rfl⟩
  obtain ⟨k, hk⟩ : ∃ y, lm3 x0 x1 x2 - 100 * lo = y := ⟨_, rfl⟩
  rw [hm, hk]
  unfold frN frD
  by_cases h1 : m = 0
  · simp only [if_pos h1]; omega
  simp only [if_neg h1]
  by_cases h2 : l * m < t * k
  · simp only [if_pos h2]
    have e : l * k = 30 * (l * (x0 - lo)) + 59 * (l * (x1 - lo)) + 11 * (l * (x2 - lo)) := by
      rw [show k = 30 * (x0 - lo) + 59 * (x1 - lo) + 11 * (x2 - lo) by omega, Int.mul_add, Int.mul_add, Int.mul_left_comm l 30, Int.mul_left_comm l 59, Int.mul_left_comm l 11]
    omega
  simp only [if_neg h2]
  by_cases h3 : 100 * a * m < 100 * m * t + l * m - t * k
  · simp only [if_pos h3]
    obtain ⟨q, hq⟩ : ∃ y, 100 * m - k = y := ⟨_, rfl⟩
    obtain ⟨e, he⟩ : ∃ y, 100 * a - l = y := ⟨_, rfl⟩
    rw [hq, he]
    have e1 : e * q = 30 * (e * (hi - x0)) + 59 * (e * (hi - x1)) + 11 * (e * (hi - x2)) := by
      rw [show q = 30 * (hi - x0) + 59 * (hi - x1) + 11 * (hi - x2) by omega, Int.mul_add, Int.mul_add, Int.mul_left_comm e 30, Int.mul_left_comm e 59, Int.mul_left_comm e 11]
    have e2 : e * q = 100 * (a * q) - l * q := by rw [← he, Int.sub_mul, Int.mul_assoc]
    omega
  · simp only [if_neg h3]
    have e1 : t * k = 30 * ((x0 - lo) * t) + 59 * ((x1 - lo) * t) + 11 * ((x2 - lo) * t) := by
      rw [show k = 30 * (x0 - lo) + 59 * (x1 - lo) + 11 * (x2 - lo) by omega, Int.mul_add, Int.mul_add, Int.mul_left_comm t 30, Int.mul_left_comm t 59, Int.mul_left_comm t 11, Int.mul_comm t, Int.mul_comm t, Int.mul_comm t]
    have e2 : l * (100 * m) = 100 * (l * m) := Int.mul_left_comm _ _ _
    rw [Int.mul_assoc 100 (x0 - lo) t, Int.mul_assoc 100 (x1 - lo) t, Int.mul_assoc 100 (x2 - lo) t, e2]
    omega
theorem mixQ_near {n d : Int} (hd : 0 < d) : -(255 * d) ≤ 510 * (mixQ 0 n d * d) - 2 * n ∧ 510 * (mixQ 0 n d * d) - 2 * n ≤ 255 * d := by
  unfold mixQ
  rw [Int.zero_mul, Int.add_zero]
  have h := Int.mul_ediv_add_emod (2 * n + d * 255) (2 * (d * 255))
  have h0 := Int.emod_nonneg (2 * n + d * 255) (b := 2 * (d * 255)) (by omega)
  have h1 := Int.emod_lt_of_pos (2 * n + d * 255) (b := 2 * (d * 255)) (by omega)
  obtain ⟨q, hq⟩ : ∃ y, (2 * n + d * 255) / (2 * (d * 255)) = y := ⟨_, rfl⟩
  rw [hq] at h ⊢
  have e : 2 * (d * 255) * q = 510 * (q * d) := by rw [show 2 * (d * 255) = 510 * d by omega, Int.mul_assoc, Int.mul_comm d q]
  omega
/- the luminosity of a mixed opaque pixel is that which it is to have, up to the rounding -/
theorem ns_near {x0 x1 x2 t l aa v0 v1 v2 u0 u1 u2 L : Int} (h0 : 0 ≤ x0 ∧ x0 ≤ aa) (h1 : 0 ≤ x1 ∧ x1 ≤ aa) (h2 : 0 ≤ x2 ∧ x2 ≤ aa) (ht : 0 ≤ t ∧ t ≤ aa) (hl : 0 ≤ l ∧ l ≤ 100 * aa) (hL : l = 255 * L) :
    -50 ≤ 30 * nsQ x0 x1 x2 t l aa v0 255 u0 255 x0 + 59 * nsQ x0 x1 x2 t l aa v1 255 u1 255 x1 + 11 * nsQ x0 x1 x2 t l aa v2 255 u2 255 x2 - L ∧ 30 * nsQ x0 x1 x2 t l aa v0 255 u0 255 x0 + 59 * nsQ x0 x1 x2 t l aa v1 255 u1 255 x1 + 11 * nsQ x0 x1 x2 t l aa v2 255 u2 255 x2 - L ≤ 50 := by
  obtain ⟨b0, b1⟩ := lm3_bd x0 x1 x2
  have sb := st3_bd h0 h1 h2
  have f := (fr_bd (c := x0) (lo := lo3 x0 x1 x2) (hi := hi3 x0 x1 x2) (m := hi3 x0 x1 x2 - lo3 x0 x1 x2) (k := lm3 x0 x1 x2 - 100 * lo3 x0 x1 x2) (t := t) (l := l) (a := aa) rfl (by omega) (by omega) (by omega) (by omega) ht.1 ht.2 hl.1 hl.2 (by omega)).1
  have hs := fr_lum (x0 := x0) (x1 := x1) (x2 := x2) (t := t) (l := l) (a := aa)
  unfold nsQ
  rw [unc_op, unc_op, unc_op]
  obtain ⟨D, hD⟩ : ∃ y, frD (hi3 x0 x1 x2 - lo3 x0 x1 x2) (lm3 x0 x1 x2 - 100 * lo3 x0 x1 x2) t l aa = y := ⟨_, rfl⟩
  obtain ⟨n0, hn0⟩ : ∃ y, frN x0 (lo3 x0 x1 x2) (hi3 x0 x1 x2) (hi3 x0 x1 x2 - lo3 x0 x1 x2) (lm3 x0 x1 x2 - 100 * lo3 x0 x1 x2) t l aa = y := ⟨_, rfl⟩
  obtain ⟨n1, hn1⟩ : ∃ y, frN x1 (lo3 x0 x1 x2) (hi3 x0 x1 x2) (hi3 x0 x1 x2 - lo3 x0 x1 x2) (lm3 x0 x1 x2 - 100 * lo3 x0 x1 x2) t l aa = y := ⟨_, rfl⟩
  obtain ⟨n2, hn2⟩ : ∃ y, frN x2 (lo3 x0 x1 x2) (hi3 x0 x1 x2) (hi3 x0 x1 x2 - lo3 x0 x1 x2) (lm3 x0 x1 x2 - 100 * lo3 x0 x1 x2) t l aa = y := ⟨_, rfl⟩
  rw [hD] at f hs ⊢
  rw [hn0, hn1, hn2] at hs ⊢
  clear hD hn0 hn1 hn2
  obtain ⟨c0, d0⟩ := mixQ_near (n := n0) f
  obtain ⟨c1, d1⟩ := mixQ_near (n := n1) f
  obtain ⟨c2, d2⟩ := mixQ_near (n := n2) f
  obtain ⟨q0, hq0⟩ : ∃ y, mixQ 0 n0 D = y := ⟨_, rfl⟩
  obtain ⟨q1, hq1⟩ : ∃ y, mixQ 0 n1 D = y := ⟨_, rfl⟩
  obtain ⟨q2, hq2⟩ : ∃ y, mixQ 0 n2 D = y := ⟨_, rfl⟩
  rw [hq0] at c0 d0 ⊢
  rw [hq1] at c1 d1 ⊢
  rw [hq2] at c2 d2 ⊢
  clear hq0 hq1 hq2
  obtain ⟨e, he⟩ : ∃ y, 30 * q0 + 59 * q1 + 11 * q2 - L = y := ⟨_, rfl⟩
  have e1 : e * D = 30 * (q0 * D) + 59 * (q1 * D) + 11 * (q2 * D) - L * D := by
    rw [← he, Int.sub_mul, Int.add_mul, Int.add_mul, Int.mul_assoc, Int.mul_assoc, Int.mul_assoc]
  have e2 : l * D = 255 * (L * D) := by rw [hL, Int.mul_assoc]
  have g0 : -(50 * D) ≤ e * D := by omega
  have g1 : e * D ≤ 50 * D := by omega
  rw [he]
  have k0 : -50 * D ≤ e * D := by rw [Int.neg_mul]; exact g0
  exact ⟨Int.le_of_mul_le_mul_right k0 f, Int.le_of_mul_le_mul_right g1 f⟩
end Go.Proofs.YtdhajiaepaamgaaDoor
