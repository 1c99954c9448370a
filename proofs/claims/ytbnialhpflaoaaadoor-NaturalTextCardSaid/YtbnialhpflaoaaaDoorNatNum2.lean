import Derived.Test.YtbnialhpflaoaaaDoorNatNum
namespace Go.Proofs.YtbnialhpflaoaaaDoor
theorem add_num (x y o c p a b : Nat) (h : x + y = o + c * p) : (x + p * a) + (y + p * b) = (o + p * ((a + b + c) % 4294967296)) + ((a + b + c) / 4294967296) * (p * 4294967296) := by
  have h1 := congrArg (p * ·) (Nat.mod_add_div (a + b + c) 4294967296)
  simp only [Nat.mul_add] at h1
  grind
theorem sub_num (x y o c p a b d c' : Nat) (h : x + c * p = y + o) (h2 : a + c' * 4294967296 = b + c + d) : (x + p * a) + c' * (p * 4294967296) = (y + p * b) + (o + p * d) := by
  have h1 := congrArg (p * ·) h2
  simp only [Nat.mul_add] at h1
  grind
theorem valD_set (l : List (BitVec 32)) (k : Nat) (d : BitVec 32) (h : k < l.length) : valD (l.set k d) + pw k * l[k].toNat = valD l + pw k * d.toNat := by
  induction l generalizing k with
  | nil => simp at h
  | cons x l ih =>
    rcases k with _ | k
    · simp only [List.set_cons_zero, valD_cons, List.getElem_cons_zero, pw_zero]; omega
    · have := ih k (by simpa using h)
      simp only [List.set_cons_succ, valD_cons, List.getElem_cons_succ, pw_succ]
      grind
theorem valD_split (l : List (BitVec 32)) (k : Nat) (h : k ≤ l.length) : valD l = valD (l.take k) + pw k * valD (l.drop k) := by
  conv => lhs; rw [← List.take_append_drop k l]
  rw [valD_append, List.length_take, Nat.min_eq_left h]
theorem valD_zeros (n : Nat) : valD (List.replicate n 0#32) = 0 := by
  induction n with
  | zero => rfl
  | succ n ih => rw [List.replicate_succ, valD_cons, ih]; rfl
theorem trim_take (l : List (BitVec 32)) (k : Nat) (hk : k ≤ l.length) (h : trimD (l.take k) = trimD l) (h0 : k = 0 ∨ ∃ h : k - 1 < l.length, l[k - 1] ≠ 0#32) : trimD l = l.take k := by
  rw [← h]
  rcases Nat.eq_zero_or_pos k with rfl | hp
  · simp [trimD]
  · obtain ⟨h1, h2⟩ := h0.resolve_left (by omega)
    rw [show l.take k = l.take (k - 1) ++ [l[k - 1]] by rw [← List.take_succ_eq_append_getElem h1, show k - 1 + 1 = k by omega], trim_snoc _ _ h2]
theorem trim_step (l : List (BitVec 32)) (k : Nat) (hk : k < l.length) (h : trimD (l.take (k + 1)) = trimD l) (h0 : l[k] = 0#32) : trimD (l.take k) = trimD l := by
  rw [← h, List.take_succ_eq_append_getElem hk, h0, trim_snoc0]
theorem trim_prefix (l : List (BitVec 32)) : trimD l = l.take (trimD l).length := by
  generalize hn : l.length = n
  induction n generalizing l with
  | zero => have := List.length_eq_zero_iff.1 hn; subst this; rfl
  | succ n ih =>
    have hl : n < l.length := by omega
    have e : l = l.take n ++ [l[n]] := by rw [← List.take_succ_eq_append_getElem hl, List.take_of_length_le (by omega)]
    by_cases h : l[n] = 0#32
    · have h2 : trimD l = trimD (l.take n) := by
        have := trim_snoc0 (l.take n)
        rw [← h, ← e] at this
        exact this
      have h3 := ih (l.take n) (by simp; omega)
      rw [h2]
      have h4 := trim_len_le (l.take n)
      rw [List.length_take] at h4
      rw [List.take_take, Nat.min_eq_left (by omega)] at h3
      exact h3
    · have h2 : trimD l = l := by
        have := trim_snoc (l.take n) l[n] h
        rwa [← e] at this
      rw [h2, List.take_length]
theorem trimD_nil : trimD [] = [] := rfl
/-- Two numbers that agree above a digit are compared by it. -/
theorem valD_cmp (l m : List (BitVec 32)) (i : Nat) (hl : i < l.length) (hm : i < m.length) (h : valD (l.drop (i + 1)) = valD (m.drop (i + 1))) (hlt : l[i].toNat < m[i].toNat) : valD l < valD m := by
  have h1 := valD_split l (i + 1) (by omega)
  have h2 := valD_split m (i + 1) (by omega)
  rw [valD_take _ _ hl, h] at h1
  rw [valD_take _ _ hm] at h2
  have h3 := valD_lt (l.take i)
  rw [List.length_take, Nat.min_eq_left (by omega)] at h3
  have h4 : pw i * (l[i].toNat + 1) ≤ pw i * m[i].toNat := Nat.mul_le_mul_left _ (by omega)
  rw [Nat.mul_add] at h4
  omega
theorem valD_len (l : List (BitVec 32)) (h : trimD l = l) (h0 : 0 < l.length) : pw (l.length - 1) ≤ valD l := by
  rcases Nat.lt_or_ge (valD l) (pw (l.length - 1)) with h1 | h1
  · have := (canon_len_le _ _).2 h1
    rw [canon_val, h] at this
    omega
  · exact h1
theorem valD_len_lt (l m : List (BitVec 32)) (hm : trimD m = m) (h : l.length < m.length) : valD l < valD m := by
  have h1 := valD_lt l
  have h2 := valD_len m hm (by omega)
  have h3 := pw_mono (show l.length ≤ m.length - 1 by omega)
  omega
end Go.Proofs.YtbnialhpflaoaaaDoor
