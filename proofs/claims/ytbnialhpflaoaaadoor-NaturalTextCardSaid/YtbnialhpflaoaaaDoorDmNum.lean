import Derived.Test.YtbnialhpflaoaaaDoorN2
namespace Go.Proofs.YtbnialhpflaoaaaDoor
/-- The estimate of a digit of the quotient is never too small. -/
theorem est_top (V E P lo dl r2 top d2 d1 q : Nat) (hV : V = lo + P * (r2 + 4294967296 * top)) (hlo : lo < P) (hr2 : r2 < 4294967296) (hE : E = dl + P * (d2 + 4294967296 * d1)) (hq : q * E ≤ V) : q * d1 ≤ top := by
  rcases Nat.lt_or_ge top (q * d1) with h | h
  · exfalso
    have h0 : P * (4294967296 * d1) ≤ P * (d2 + 4294967296 * d1) := Nat.mul_le_mul_left _ (by omega)
    have h1 : q * (P * (4294967296 * d1)) ≤ q * E := Nat.mul_le_mul_left _ (by rw [hE]; omega)
    have h2 : q * (P * (4294967296 * d1)) = P * (4294967296 * (q * d1)) := by grind
    have h3 : P * (4294967296 * (top + 1)) ≤ P * (4294967296 * (q * d1)) := Nat.mul_le_mul_left _ (by omega)
    have h4 : P * ((r2 + 4294967296 * top) + 1) ≤ P * (4294967296 * (top + 1)) := Nat.mul_le_mul_left _ (by omega)
    rw [Nat.mul_add, Nat.mul_one] at h4
    omega
  · exact h
theorem est_step (V E P lo dl r2 top d2 d1 f left q : Nat) (hV : V = lo + P * (r2 + 4294967296 * top)) (hlo : lo < P) (hE : E = dl + P * (d2 + 4294967296 * d1)) (hl : left + f * d1 = top) (ht : left * 4294967296 + r2 < f * d2) (hq : q * E ≤ V) : q + 1 ≤ f := by
  rcases Nat.lt_or_ge q f with h | h
  · exact h
  · exfalso
    have h1 : f * E ≤ q * E := Nat.mul_le_mul_right _ h
    have h2 : f * (P * (d2 + 4294967296 * d1)) ≤ f * E := Nat.mul_le_mul_left _ (by rw [hE]; omega)
    have h3 : f * (P * (d2 + 4294967296 * d1)) = P * (f * d2 + 4294967296 * (f * d1)) := by grind
    have h4 : P * ((r2 + 4294967296 * top) + 1) ≤ P * (f * d2 + 4294967296 * (f * d1)) := Nat.mul_le_mul_left _ (by omega)
    rw [Nat.mul_add, Nat.mul_one] at h4
    omega
theorem est_exit (V E P lo dl r2 top d2 d1 f left : Nat) (hV : V = lo + P * (r2 + 4294967296 * top)) (hE : E = dl + P * (d2 + 4294967296 * d1)) (hd : dl < P) (hd1 : 0 < d1) (hf : f < 4294967296) (hl : left + f * d1 = top) (ht : f * d2 ≤ left * 4294967296 + r2) : f * E ≤ V + E := by
  rcases Nat.eq_zero_or_pos f with h0 | h0
  · subst h0; rw [Nat.zero_mul]; exact Nat.zero_le _
  · obtain ⟨g, rfl⟩ : ∃ g, f = g + 1 := ⟨f - 1, by omega⟩
    rw [Nat.add_mul, Nat.one_mul] at *
    have h1 : g * E ≤ g * (P * (d2 + 4294967296 * d1 + 1)) := Nat.mul_le_mul_left _ (by rw [hE, Nat.mul_add P _ 1, Nat.mul_one]; omega)
    have h2 : g * (P * (d2 + 4294967296 * d1 + 1)) = P * (g * d2 + 4294967296 * (g * d1) + g) := by grind
    have h3 : P * (g * d2 + 4294967296 * (g * d1) + g) ≤ P * (r2 + 4294967296 * top) := Nat.mul_le_mul_left _ (by omega)
    omega
theorem sm_num (Q1 Q0 V0 f T x z c b nd b' R i r cc : Nat) (h1 : Q1 + r * z = Q0 + r * nd) (h0 : Q0 + f * T * R = V0 + (b + c) * r) (hcc : c + f * x = cc) (hd : nd + cc % 4294967296 + b = z + b' * 4294967296) (hr : r = i * R) : Q1 + f * (T + i * x) * R = V0 + (b' + cc / 4294967296) * (r * 4294967296) := by
  have h2 := congrArg (r * ·) hd
  have h3 := congrArg (r * ·) (Nat.mod_add_div cc 4294967296)
  have h4 := congrArg (r * ·) hcc
  simp only [Nat.mul_add] at h2 h3 h4
  have h5 : f * (T + i * x) * R = f * T * R + r * (f * x) := by subst hr; grind
  grind
theorem ab_num (Q1 Q0 V0 T x z c R i r cc : Nat) (h1 : Q1 + r * z = Q0 + r * (cc % 4294967296)) (h0 : Q0 + c * r = V0 + T * R) (hcc : c + (z + x) = cc) (hr : r = i * R) : Q1 + (cc / 4294967296) * (r * 4294967296) = V0 + (T + i * x) * R := by
  have h3 := congrArg (r * ·) (Nat.mod_add_div cc 4294967296)
  have h4 := congrArg (r * ·) hcc
  simp only [Nat.mul_add] at h3 h4
  have h5 : (T + i * x) * R = T * R + r * x := by subst hr; grind
  grind
theorem ab_end (Q1 Q0 V0 S z c r cc : Nat) (h1 : Q1 + r * z = Q0 + r * (cc % 4294967296)) (h0 : Q0 + c * r = V0 + S) (hcc : z + c = cc) : Q1 + (cc / 4294967296) * (r * 4294967296) = V0 + S := by
  have h3 := congrArg (r * ·) (Nat.mod_add_div cc 4294967296)
  have h4 := congrArg (r * ·) hcc
  simp only [Nat.mul_add] at h3 h4
  grind
theorem high_lt (l : List (BitVec 32)) (m : Nat) (h : ∀ z, m ≤ z → z < l.length → l[z]? = some 0#32) : valD l < pw m := by
  rcases Nat.lt_or_ge l.length m with hm | hm
  · exact Nat.lt_of_lt_of_le (valD_lt l) (pw_mono (Nat.le_of_lt hm))
  · rw [valD_split l m hm]
    have : l.drop m = List.replicate (l.length - m) 0#32 := by
      apply List.ext_getElem?
      intro i
      rw [List.getElem?_drop, List.getElem?_replicate]
      split
      · rename_i hi; exact h _ (by omega) (by omega)
      · rw [List.getElem?_eq_none (by omega)]
    rw [this, valD_zeros, Nat.mul_zero, Nat.add_zero]
    have h1 := valD_lt (l.take m)
    rwa [List.length_take, Nat.min_eq_left hm] at h1
theorem high_zero (l : List (BitVec 32)) (m : Nat) (h : valD l < pw m) (z : Nat) (hz : m ≤ z) (hl : z < l.length) : l[z]? = some 0#32 := by
  have e := valD_split l z (by omega)
  rw [drop_dig, digD_in _ _ hl, Nat.mul_add] at e
  have hp := pw_mono hz
  rcases Nat.eq_zero_or_pos l[z].toNat with h0 | h0
  · rw [List.getElem?_eq_getElem hl]
    exact congrArg some (BitVec.eq_of_toNat_eq (by simpa using h0))
  · exfalso
    have : pw z * 1 ≤ pw z * l[z].toNat := Nat.mul_le_mul_left _ h0
    omega
end Go.Proofs.YtbnialhpflaoaaaDoor
