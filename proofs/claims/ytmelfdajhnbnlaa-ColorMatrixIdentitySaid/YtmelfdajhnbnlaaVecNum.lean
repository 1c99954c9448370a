
import Init
namespace Go.Proofs.Ytmelfdajhnbnlaa
set_option linter.unusedVariables false
set_option linter.unusedSimpArgs false
/- plain facts on clamped points, cross products and orientations -/
def clampV (n lo hi : Int) : Int := if n < lo then lo else if hi < n then hi else n
theorem clampV_bd (n lo hi : Int) (h : lo ≤ hi) : lo ≤ clampV n lo hi ∧ clampV n lo hi ≤ hi := by
  unfold clampV
  split
  · omega
  · split <;> omega
theorem clampV_id (n lo hi : Int) (h : lo ≤ n) (h' : n ≤ hi) : clampV n lo hi = n := by
  unfold clampV
  rw [if_neg (by omega), if_neg (by omega)]
def hold (x : Int) : Int := clampV x (-1048576) 1048576
theorem hold_bd (x : Int) : -1048576 ≤ hold x ∧ hold x ≤ 1048576 := clampV_bd x _ _ (by omega)
theorem hold_id (x : Int) (h : -1048576 ≤ x) (h' : x ≤ 1048576) : hold x = x := clampV_id x _ _ h h'
theorem hold_eq (x : Int) : hold x = x ↔ -1048576 ≤ x ∧ x ≤ 1048576 := by
  constructor
  · intro h
    have := hold_bd x
    omega
  · intro h
    exact hold_id x h.1 h.2
theorem hold_hold (x : Int) : hold (hold x) = hold x := hold_id _ (hold_bd x).1 (hold_bd x).2
def sgn3 (x : Int) : Int := clampV x (-1) 1
theorem sgn3_pos (x : Int) (h : 0 < x) : sgn3 x = 1 := by unfold sgn3 clampV; split <;> (try split) <;> omega
theorem sgn3_neg (x : Int) (h : x < 0) : sgn3 x = -1 := by unfold sgn3 clampV; split <;> (try split) <;> omega
theorem sgn3_zero : sgn3 0 = 0 := by decide
theorem sgn3_bd (x : Int) : -1 ≤ sgn3 x ∧ sgn3 x ≤ 1 := clampV_bd x _ _ (by omega)
theorem sgn3_opp (x : Int) : sgn3 (-x) = -sgn3 x := by
  rcases Int.lt_trichotomy x 0 with h | h | h
  · rw [sgn3_neg x h, sgn3_pos _ (by omega)]; rfl
  · subst h; rfl
  · rw [sgn3_pos x h, sgn3_neg _ (by omega)]
theorem sgn3_eq0 (x : Int) : sgn3 x = 0 ↔ x = 0 := by
  constructor
  · intro h
    rcases Int.lt_trichotomy x 0 with h' | h' | h'
    · rw [sgn3_neg x h'] at h; omega
    · exact h'
    · rw [sgn3_pos x h'] at h; omega
  · rintro rfl; rfl
theorem mul_bd (a b A B : Int) (h0 : -A ≤ a) (h1 : a ≤ A) (h2 : -B ≤ b) (h3 : b ≤ B) : -(A * B) ≤ a * b ∧ a * b ≤ A * B := by
  have hA : 0 ≤ A := by omega
  have hB : 0 ≤ B := by omega
  have e : (a * b).natAbs ≤ (A * B).natAbs := by
    rw [Int.natAbs_mul, Int.natAbs_mul]
    exact Nat.mul_le_mul (by omega) (by omega)
  have : 0 ≤ A * B := Int.mul_nonneg hA hB
  omega
/-- the cross product of b - a and p - a -/
def crs (ax ay bx b2 px py : Int) : Int := (bx - ax) * (py - ay) - (b2 - ay) * (px - ax)
theorem crs_bd (ax ay bx b2 px py M : Int) (h1 : -M ≤ bx - ax) (h2 : bx - ax ≤ M) (h3 : -M ≤ py - ay) (h4 : py - ay ≤ M) (h5 : -M ≤ b2 - ay) (h6 : b2 - ay ≤ M) (h7 : -M ≤ px - ax) (h8 : px - ax ≤ M) :
    -(2 * (M * M)) ≤ crs ax ay bx b2 px py ∧ crs ax ay bx b2 px py ≤ 2 * (M * M) := by
  have := mul_bd _ _ M M h1 h2 h3 h4
  have := mul_bd _ _ M M h5 h6 h7 h8
  unfold crs
  omega
theorem crs_swap (ax ay bx b2 px py : Int) : crs bx b2 ax ay px py = -crs ax ay bx b2 px py := by unfold crs; grind
theorem crs_rot (ax ay bx b2 px py : Int) : crs bx b2 px py ax ay = crs ax ay bx b2 px py := by unfold crs; grind
theorem crs_rot2 (ax ay bx b2 px py : Int) : crs px py ax ay bx b2 = crs ax ay bx b2 px py := by unfold crs; grind
theorem crs_swap2 (ax ay bx b2 px py : Int) : crs ax ay px py bx b2 = -crs ax ay bx b2 px py := by unfold crs; grind
theorem crs_shift (ax ay bx b2 px py u v : Int) : crs (ax + u) (ay + v) (bx + u) (b2 + v) (px + u) (py + v) = crs ax ay bx b2 px py := by unfold crs; grind
theorem crs_turn (ax ay bx b2 px py : Int) : crs (-ay) ax (-b2) bx (-py) px = crs ax ay bx b2 px py := by unfold crs; grind
theorem crs_self (ax ay bx b2 : Int) : crs ax ay bx b2 ax ay = 0 := by unfold crs; grind
theorem crs_self2 (ax ay bx b2 : Int) : crs ax ay bx b2 bx b2 = 0 := by unfold crs; grind
/-- the scalar product of a - p and b - p -/
def dotp (ax ay bx b2 px py : Int) : Int := (ax - px) * (bx - px) + (ay - py) * (b2 - py)
theorem dotp_swap (ax ay bx b2 px py : Int) : dotp bx b2 ax ay px py = dotp ax ay bx b2 px py := by unfold dotp; grind
theorem dotp_self (ax ay bx b2 : Int) : dotp ax ay bx b2 ax ay = 0 ∧ dotp ax ay bx b2 bx b2 = 0 := by unfold dotp; constructor <;> grind
theorem mul_nonpos_iff_between (a b p : Int) : (a - p) * (b - p) ≤ 0 ↔ min a b ≤ p ∧ p ≤ max a b := by
  constructor
  · intro h
    by_cases h1 : p < a ∧ p < b
    · have := Int.mul_pos (show 0 < a - p by omega) (show 0 < b - p by omega); omega
    · by_cases h2 : a < p ∧ b < p
      · have := Int.mul_pos_of_neg_of_neg (show a - p < 0 by omega) (show b - p < 0 by omega); omega
      · omega
  · intro h
    rcases Int.le_total a b with k | k
    · exact Int.mul_nonpos_of_nonpos_of_nonneg (by omega) (by omega)
    · exact Int.mul_nonpos_of_nonneg_of_nonpos (by omega) (by omega)
theorem between_iff (ax ay bx b2 px py : Int) (hc : crs ax ay bx b2 px py = 0) :
    dotp ax ay bx b2 px py ≤ 0 ↔ (min ax bx ≤ px ∧ px ≤ max ax bx) ∧ (min ay b2 ≤ py ∧ py ≤ max ay b2) := by
  rw [← mul_nonpos_iff_between, ← mul_nonpos_iff_between]
  unfold dotp
  have e : (ax - px) * (b2 - py) = (ay - py) * (bx - px) := by unfold crs at hc; grind
  have sq : ((ax - px) * (bx - px)) * ((ay - py) * (b2 - py)) = ((ax - px) * (b2 - py)) * ((ax - px) * (b2 - py)) := by
    have : ((ax - px) * (bx - px)) * ((ay - py) * (b2 - py)) = ((ax - px) * (b2 - py)) * ((ay - py) * (bx - px)) := by grind
    rw [this, ← e]
  generalize (ax - px) * (bx - px) = u at *
  generalize (ay - py) * (b2 - py) = v at *
  generalize (ax - px) * (b2 - py) = t at *
  have st : 0 ≤ t * t := by
    rcases Int.le_total 0 t with h | h
    · exact Int.mul_nonneg h h
    · exact Int.mul_nonneg_of_nonpos_of_nonpos h h
  rw [← sq] at st
  constructor
  · intro h
    by_cases hu : 0 < u
    · have := Int.mul_neg_of_pos_of_neg hu (show v < 0 by omega); omega
    · by_cases hv : 0 < v
      · have := Int.mul_neg_of_neg_of_pos (show u < 0 by omega) hv; omega
      · omega
  · intro h; omega
end Go.Proofs.Ytmelfdajhnbnlaa
