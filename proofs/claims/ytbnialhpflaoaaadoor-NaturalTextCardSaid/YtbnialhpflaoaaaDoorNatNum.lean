namespace Go.Proofs.YtbnialhpflaoaaaDoor
/-- The value of digits in base 2^32, the least first. -/
def valD : List (BitVec 32) → Nat
  | [] => 0
  | d :: l => d.toNat + 4294967296 * valD l
/-- Without the zero digits at the end. -/
def trimD : List (BitVec 32) → List (BitVec 32)
  | [] => []
  | d :: l => match trimD l with
    | [] => if d = 0#32 then [] else [d]
    | x :: t => d :: x :: t
/-- The digits of a number, without zero digits at the end. -/
def canonB (b n : Nat) : List (BitVec 32) := if _h : n = 0 ∨ b < 2 then [] else BitVec.ofNat 32 n :: canonB b (n / b)
termination_by n
decreasing_by exact Nat.div_lt_self (by omega) (by omega)
def canon (n : Nat) : List (BitVec 32) := canonB 4294967296 n
def pw (k : Nat) : Nat := 4294967296 ^ k
theorem pw_zero : pw 0 = 1 := rfl
theorem pw_succ (k : Nat) : pw (k + 1) = pw k * 4294967296 := by unfold pw; rw [Nat.pow_succ]
theorem pw_add (j k : Nat) : pw (j + k) = pw j * pw k := Nat.pow_add _ _ _
theorem pw_pos (k : Nat) : 0 < pw k := Nat.pow_pos (by decide)
theorem pw_mono {j k : Nat} (h : j ≤ k) : pw j ≤ pw k := Nat.pow_le_pow_right (by decide) h
theorem canon_zero : canon 0 = [] := by unfold canon canonB; simp
theorem canon_pos {n : Nat} (h : n ≠ 0) : canon n = BitVec.ofNat 32 n :: canon (n / 4294967296) := by unfold canon; rw [canonB, dif_neg (by omega)]
theorem valD_nil : valD [] = 0 := rfl
theorem valD_cons (d : BitVec 32) (l : List (BitVec 32)) : valD (d :: l) = d.toNat + 4294967296 * valD l := rfl
theorem valD_canon (n : Nat) : valD (canon n) = n := by
  induction n using Nat.strongRecOn with
  | _ n ih =>
    by_cases h : n = 0
    · subst h; rw [canon_zero]; rfl
    · rw [canon_pos h, valD_cons, ih _ (by omega), BitVec.toNat_ofNat]; omega
theorem valD_trim (l : List (BitVec 32)) : valD (trimD l) = valD l := by
  induction l with
  | nil => rfl
  | cons d l ih =>
    unfold trimD
    split
    · rename_i h
      rw [h] at ih
      rw [valD_cons, ← ih]
      split
      · rename_i h; subst h; rfl
      · rfl
    · rename_i x t h
      rw [valD_cons, ← h, ih, valD_cons]
theorem canon_val (l : List (BitVec 32)) : canon (valD l) = trimD l := by
  induction l with
  | nil => exact canon_zero
  | cons d l ih =>
    have hd := d.isLt
    have hv := valD_trim l
    unfold trimD
    rw [valD_cons]
    split
    · rename_i h
      rw [h] at hv
      rw [← hv, valD_nil, Nat.mul_zero, Nat.add_zero]
      split
      · rename_i h; subst h; exact canon_zero
      · rename_i h
        have h0 : d.toNat ≠ 0 := fun e => h (BitVec.eq_of_toNat_eq (by simpa using e))
        rw [canon_pos h0, show d.toNat / 4294967296 = 0 by omega, canon_zero, BitVec.ofNat_toNat]
        simp
    · rename_i x t h
      by_cases h0 : d.toNat + 4294967296 * valD l = 0
      · have : valD l = 0 := by omega
        rw [this, canon_zero] at ih
        rw [← ih] at h
        cases h
      · rw [canon_pos h0, show (d.toNat + 4294967296 * valD l) / 4294967296 = valD l by omega, ih, h]
        congr 1
        apply BitVec.eq_of_toNat_eq
        rw [BitVec.toNat_ofNat]; omega
theorem valD_lt (l : List (BitVec 32)) : valD l < pw l.length := by
  induction l with
  | nil => exact Nat.one_pos
  | cons d l ih =>
    have := d.isLt
    rw [valD_cons, List.length_cons, pw_succ]; omega
theorem valD_append (l m : List (BitVec 32)) : valD (l ++ m) = valD l + pw l.length * valD m := by
  induction l with
  | nil => simp [pw_zero, valD_nil]
  | cons d l ih =>
    rw [List.cons_append, valD_cons, valD_cons, ih, List.length_cons, pw_succ, Nat.mul_add]
    grind
theorem valD_snoc (l : List (BitVec 32)) (d : BitVec 32) : valD (l ++ [d]) = valD l + pw l.length * d.toNat := by
  rw [valD_append]; simp [valD_cons, valD_nil]
theorem valD_take (l : List (BitVec 32)) (k : Nat) (h : k < l.length) : valD (l.take (k + 1)) = valD (l.take k) + pw k * l[k].toNat := by
  rw [List.take_succ_eq_append_getElem h, valD_snoc, List.length_take, Nat.min_eq_left (by omega)]
theorem valD_inj {l m : List (BitVec 32)} (hl : trimD l = l) (hm : trimD m = m) (h : valD l = valD m) : l = m := by
  rw [← hl, ← hm, ← canon_val, ← canon_val, h]
theorem trim_canon (n : Nat) : trimD (canon n) = canon n := by rw [← canon_val, valD_canon]
theorem canon_inj {m n : Nat} : canon m = canon n ↔ m = n :=
  ⟨fun h => by rw [← valD_canon m, h, valD_canon], fun h => by rw [h]⟩
/-- The trimmed digits are a prefix. -/
theorem trim_snoc0 (l : List (BitVec 32)) : trimD (l ++ [0#32]) = trimD l := by
  rw [← canon_val, ← canon_val, valD_snoc]; simp
theorem trim_snoc (l : List (BitVec 32)) (d : BitVec 32) (h : d ≠ 0#32) : trimD (l ++ [d]) = l ++ [d] := by
  induction l with
  | nil => simp [trimD, h]
  | cons x l ih =>
    rw [List.cons_append]
    unfold trimD
    rw [ih]
    cases l <;> rfl
theorem canon_len_le (n k : Nat) : (canon n).length ≤ k ↔ n < pw k := by
  constructor
  · intro h
    have h1 := valD_lt (canon n)
    rw [valD_canon] at h1
    exact Nat.lt_of_lt_of_le h1 (pw_mono h)
  · induction k generalizing n with
    | zero => intro h; rw [pw_zero] at h; rw [show n = 0 by omega, canon_zero]; simp
    | succ k ih =>
      intro h
      by_cases h0 : n = 0
      · subst h0; rw [canon_zero]; simp
      · rw [canon_pos h0, List.length_cons]
        have := ih (n / 4294967296) (by rw [pw_succ] at h; exact Nat.div_lt_of_lt_mul (by rw [Nat.mul_comm]; exact h))
        omega
theorem trim_len_le (l : List (BitVec 32)) : (trimD l).length ≤ l.length := by
  rw [← canon_val, canon_len_le]; exact valD_lt l
end Go.Proofs.YtbnialhpflaoaaaDoor
