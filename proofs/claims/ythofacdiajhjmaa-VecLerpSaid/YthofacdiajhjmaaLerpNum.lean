
import Derived.Test.YthofacdiajhjmaaRnd
import Derived.Test.YthofacdiajhjmaaVecNum
namespace Go.Proofs.Ythofacdiajhjmaa
set_option linter.unusedVariables false
set_option linter.unusedSimpArgs false
/- plain facts on rounded interpolation -/
theorem rdiv_parts (N d : Int) (hd : 1 ≤ d) (h0 : -4611686018427387904 ≤ N) (h1 : N ≤ 4611686018427387904) :
    2 * (mdrV N 1 d * d) ≤ 2 * N + d ∧ 2 * N ≤ 2 * (mdrV N 1 d * d) + d ∧ (0 ≤ N → 0 ≤ mdrV N 1 d) ∧ (N ≤ 0 → mdrV N 1 d ≤ 0) := by
  obtain ⟨W, w0, w1, w2, w3, w4, w5, w6⟩ := round_parts N d (by omega) (by omega)
  have hdn : (d.natAbs : Int) = d := by omega
  rw [hdn] at w1 w2
  by_cases hN : 0 ≤ N
  · have e := w3 hN
    have hNn : (N.natAbs : Int) = N := by omega
    rw [hNn] at w1 w2
    refine ⟨by omega, by omega, fun _ => ?_, fun h => ?_⟩
    · by_cases c : mdrV N 1 d ≤ -1
      · have := Int.mul_le_mul_of_nonneg_right c (show 0 ≤ d by omega)
        omega
      · omega
    · obtain rfl : N = 0 := by omega
      by_cases c : 1 ≤ mdrV 0 1 d
      · have := Int.mul_le_mul_of_nonneg_right c (show 0 ≤ d by omega)
        omega
      · omega
  · have e := w4 (by omega)
    have hNn : (N.natAbs : Int) = -N := by omega
    rw [hNn] at w1 w2
    refine ⟨by omega, by omega, fun h => absurd h hN, fun _ => ?_⟩
    by_cases c : 1 ≤ mdrV N 1 d
    · have := Int.mul_le_mul_of_nonneg_right c (show 0 ≤ d by omega)
      omega
    · omega
theorem rdiv_between (k w d : Int) (hd : 1 ≤ d) (hd' : d ≤ 1099511627776) (k0 : 0 ≤ k) (k1 : k ≤ d) (w0 : -2097152 ≤ w) (w1 : w ≤ 2097152) :
    -2305843009213693952 ≤ k * w ∧ k * w ≤ 2305843009213693952 ∧ (0 ≤ w → 0 ≤ mdrV (k * w) 1 d ∧ mdrV (k * w) 1 d ≤ w) ∧ (w ≤ 0 → w ≤ mdrV (k * w) 1 d ∧ mdrV (k * w) 1 d ≤ 0) := by
  obtain ⟨b0, b1⟩ := mul_bd k w 1099511627776 2097152 (by omega) (by omega) w0 w1
  obtain ⟨p0, p1, p2, p3⟩ := rdiv_parts (k * w) d hd (by omega) (by omega)
  generalize mdrV (k * w) 1 d = Q at *
  refine ⟨by omega, by omega, fun hw => ⟨p2 (Int.mul_nonneg k0 hw), ?_⟩, fun hw => ⟨?_, p3 (Int.mul_nonpos_of_nonneg_of_nonpos k0 hw)⟩⟩
  · have h := Int.mul_le_mul_of_nonneg_right k1 hw
    by_cases c : w + 1 ≤ Q
    · have h2 := Int.mul_le_mul_of_nonneg_right c (show 0 ≤ d by omega)
      have e : (w + 1) * d = d * w + d := by grind
      omega
    · omega
  · have h := Int.mul_le_mul_of_nonpos_right k1 hw
    by_cases c : Q ≤ w - 1
    · have h2 := Int.mul_le_mul_of_nonneg_right c (show 0 ≤ d by omega)
      have e : (w - 1) * d = d * w - d := by grind
      omega
    · omega
/-- the coordinate at n/d of the way from a to b -/
def lerpV (a b n d : Int) : Int := if d < 1 ∨ 1099511627776 < d then a else a + mdrV (clampV n 0 d * (b - a)) 1 d
theorem lerpV_in (a b n d : Int) (hd : 1 ≤ d) (hd' : d ≤ 1099511627776) : lerpV a b n d = a + mdrV (clampV n 0 d * (b - a)) 1 d := by
  unfold lerpV
  rw [if_neg (by omega)]
theorem lerpV_out (a b n d : Int) (h : d < 1 ∨ 1099511627776 < d) : lerpV a b n d = a := by
  unfold lerpV
  rw [if_pos h]
theorem lerpV_bd (a b n d : Int) (ha : -1048576 ≤ a) (ha' : a ≤ 1048576) (hb : -1048576 ≤ b) (hb' : b ≤ 1048576) : min a b ≤ lerpV a b n d ∧ lerpV a b n d ≤ max a b := by
  by_cases h : d < 1 ∨ 1099511627776 < d
  · rw [lerpV_out _ _ _ _ h]; omega
  · rw [lerpV_in _ _ _ _ (by omega) (by omega)]
    obtain ⟨k0, k1⟩ := clampV_bd n 0 d (by omega)
    obtain ⟨_, _, h1, h2⟩ := rdiv_between (clampV n 0 d) (b - a) d (by omega) (by omega) k0 k1 (by omega) (by omega)
    rcases Int.le_total 0 (b - a) with c | c
    · have := h1 c; omega
    · have := h2 c; omega
theorem lerpV_zero (a b n d : Int) (hd : 1 ≤ d) (hd' : d ≤ 1099511627776) (hn : n ≤ 0) : lerpV a b n d = a := by
  rw [lerpV_in _ _ _ _ hd hd']
  have e : clampV n 0 d = 0 := by unfold clampV; split <;> (try split) <;> omega
  obtain ⟨p0, p1, p2, p3⟩ := rdiv_parts 0 d hd (by omega) (by omega)
  have h1 := p2 (Int.le_refl _)
  have h2 := p3 (Int.le_refl _)
  rw [e, Int.zero_mul]
  omega
theorem lerpV_one (a b d : Int) (hd : 1 ≤ d) (hd' : d ≤ 1099511627776) (ha : -1048576 ≤ a) (ha' : a ≤ 1048576) (hb : -1048576 ≤ b) (hb' : b ≤ 1048576) : lerpV a b d d = b := by
  rw [lerpV_in _ _ _ _ hd hd', clampV_id d 0 d (by omega) (by omega)]
  obtain ⟨_, _, h1, h2⟩ := rdiv_between d (b - a) d hd hd' (by omega) (Int.le_refl _) (by omega) (by omega)
  obtain ⟨b0, b1⟩ := mul_bd d (b - a) 1099511627776 2097152 (by omega) (by omega) (by omega) (by omega)
  obtain ⟨p0, p1, p2, p3⟩ := rdiv_parts (d * (b - a)) d hd (by omega) (by omega)
  generalize mdrV (d * (b - a)) 1 d = Q at *
  have e : d * (b - a) = (b - a) * d := Int.mul_comm _ _
  have f : Q = b - a := by
    by_cases c : b - a + 1 ≤ Q
    · have h3 := Int.mul_le_mul_of_nonneg_right c (show 0 ≤ d by omega)
      have e2 : (b - a + 1) * d = (b - a) * d + d := by grind
      omega
    · by_cases c2 : Q ≤ b - a - 1
      · have h3 := Int.mul_le_mul_of_nonneg_right c2 (show 0 ≤ d by omega)
        have e2 : (b - a - 1) * d = (b - a) * d - d := by grind
        omega
      · omega
  omega
theorem lerpV_far (a b n d : Int) (hd : 1 ≤ d) (hd' : d ≤ 1099511627776) (ha : -1048576 ≤ a) (ha' : a ≤ 1048576) (hb : -1048576 ≤ b) (hb' : b ≤ 1048576) :
    -1 ≤ lerpV a b n d - lerpV b a (d - clampV n 0 d) d ∧ lerpV a b n d - lerpV b a (d - clampV n 0 d) d ≤ 1 := by
  obtain ⟨k0, k1⟩ := clampV_bd n 0 d (by omega)
  rw [lerpV_in _ _ _ _ hd hd', lerpV_in _ _ _ _ hd hd', clampV_id (d - clampV n 0 d) 0 d (by omega) (by omega)]
  generalize clampV n 0 d = k at *
  obtain ⟨b0, b1⟩ := mul_bd k (b - a) 1099511627776 2097152 (by omega) (by omega) (by omega) (by omega)
  obtain ⟨b2, b3⟩ := mul_bd (d - k) (a - b) 1099511627776 2097152 (by omega) (by omega) (by omega) (by omega)
  obtain ⟨p0, p1, _, _⟩ := rdiv_parts (k * (b - a)) d hd (by omega) (by omega)
  obtain ⟨q0, q1, _, _⟩ := rdiv_parts ((d - k) * (a - b)) d hd (by omega) (by omega)
  generalize mdrV (k * (b - a)) 1 d = Q at *
  generalize mdrV ((d - k) * (a - b)) 1 d = R at *
  have e : k * (b - a) - (d - k) * (a - b) = (b - a) * d := by grind
  have hX : (a + Q - (b + R)) * d = Q * d - R * d - (b - a) * d := by grind
  generalize hZ : a + Q - (b + R) = Z at *
  constructor
  · by_cases c : Z ≤ -2
    · have := Int.mul_le_mul_of_nonneg_right c (show 0 ≤ d by omega)
      omega
    · omega
  · by_cases c : 2 ≤ Z
    · have := Int.mul_le_mul_of_nonneg_right c (show 0 ≤ d by omega)
      omega
    · omega
end Go.Proofs.Ythofacdiajhjmaa
