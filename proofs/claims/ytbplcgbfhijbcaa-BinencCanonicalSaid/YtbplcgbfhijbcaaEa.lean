import Derived.WalkKit
namespace Go.Proofs.Ytbplcgbfhijbcaa
open Go.RowKit
set_option linter.unusedVariables false
set_option linter.unusedSimpArgs false
/-- The value of groups of seven bits, the least first. -/
def lowv : List (BitVec 8) → Nat
  | [] => 0
  | c :: t => c.toNat % 128 + 128 * lowv t
/-- How many leading bytes have their top bit set, f at most. -/
def kofA : Nat → List (BitVec 8) → Nat
  | 0, _ => 0
  | _ + 1, [] => 0
  | f + 1, c :: t => if 127 < c.toNat then kofA f t + 1 else 0
def kof (l : List (BitVec 8)) : Nat := kofA 9 l
def byA (l : List (BitVec 8)) (k : Nat) : Nat := (l.getD k 0#8).toNat
def uvE (l : List (BitVec 8)) : Nat := if l.length ≤ kof l then 4 else if (kof l = 9 ∧ 1 < byA l (kof l)) ∨ (0 < kof l ∧ byA l (kof l) = 0) then 3 else 0
def uvV (l : List (BitVec 8)) : Nat := lowv (l.take (kof l + 1))
def uvN (l : List (BitVec 8)) : Nat := kof l + 1
theorem kofA_le (f : Nat) (l : List (BitVec 8)) : kofA f l ≤ f := by
  induction f generalizing l with
  | zero => simp [kofA]
  | succ f ih =>
    cases l with
    | nil => simp [kofA]
    | cons c t =>
      unfold kofA
      have := ih t
      split <;> omega
theorem kofA_len (f : Nat) (l : List (BitVec 8)) : kofA f l ≤ l.length := by
  induction f generalizing l with
  | zero => simp [kofA]
  | succ f ih =>
    cases l with
    | nil => simp [kofA]
    | cons c t =>
      unfold kofA
      have := ih t
      split <;> simp; omega
theorem kof_le (l : List (BitVec 8)) : kof l ≤ 9 := kofA_le 9 l
theorem kof_len (l : List (BitVec 8)) : kof l ≤ l.length := kofA_len 9 l
theorem byA_in (l : List (BitVec 8)) (k : Nat) (h : k < l.length) : byA l k = l[k].toNat := by simp [byA, List.getD, h]
theorem byA_lt (l : List (BitVec 8)) (k : Nat) : byA l k < 256 := (l.getD k 0#8).isLt
theorem kofA_big (f : Nat) (l : List (BitVec 8)) (j : Nat) (h : j < kofA f l) : 127 < byA l j := by
  induction f generalizing l j with
  | zero => simp [kofA] at h
  | succ f ih =>
    cases l with
    | nil => simp [kofA] at h
    | cons c t =>
      unfold kofA at h
      split at h
      · cases j with
        | zero => simpa [byA] using ‹_›
        | succ j => have := ih t j (by omega); simpa [byA] using this
      · omega
theorem kofA_stop (f : Nat) (l : List (BitVec 8)) (h : kofA f l < f) (h2 : kofA f l < l.length) : byA l (kofA f l) ≤ 127 := by
  induction f generalizing l with
  | zero => omega
  | succ f ih =>
    cases l with
    | nil => simp at h2
    | cons c t =>
      unfold kofA at h h2 ⊢
      split at h
      · rename_i hc
        rw [if_pos hc] at h2
        rw [if_pos hc]
        have := ih t (by omega) (by simpa using h2)
        simpa [byA] using this
      · rename_i hc
        rw [if_neg hc]
        simp [byA]; omega
theorem kof_big (l : List (BitVec 8)) (j : Nat) (h : j < kof l) : 127 < byA l j := kofA_big 9 l j h
theorem kof_stop (l : List (BitVec 8)) (h : kof l < 9) (h2 : kof l < l.length) : byA l (kof l) ≤ 127 := kofA_stop 9 l h h2
/-- The first index at which the scan stops is kof. -/
theorem kofA_is (f : Nat) (l : List (BitVec 8)) (k : Nat) (h1 : ∀ j, j < k → 127 < byA l j) (hk : k ≤ f) (h2 : k = f ∨ l.length ≤ k ∨ byA l k ≤ 127) : kofA f l = k := by
  induction f generalizing l k with
  | zero => simp [kofA]; omega
  | succ f ih =>
    cases l with
    | nil =>
      simp [kofA]
      cases k with
      | zero => rfl
      | succ k => have := h1 0 (by omega); simp [byA] at this
    | cons c t =>
      unfold kofA
      split
      · rename_i hc
        cases k with
        | zero => simp [byA] at h2; omega
        | succ k =>
          rw [ih t k (fun j hj => by have := h1 (j + 1) (by omega); simpa [byA] using this) (by omega) (by simpa [byA] using h2)]
      · rename_i hc
        cases k with
        | zero => rfl
        | succ k => have := h1 0 (by omega); simp [byA] at this; omega
theorem kof_is (l : List (BitVec 8)) (k : Nat) (h1 : ∀ j, j < k → 127 < byA l j) (hk : k ≤ 9) (h2 : k = 9 ∨ l.length ≤ k ∨ byA l k ≤ 127) : kof l = k := kofA_is 9 l k h1 hk h2
theorem lowv_lt (l : List (BitVec 8)) : lowv l < 128 ^ l.length := by
  induction l with
  | nil => simp [lowv]
  | cons c t ih =>
    simp only [lowv, List.length_cons, Nat.pow_succ]
    omega
theorem lowv_append (l m : List (BitVec 8)) : lowv (l ++ m) = lowv l + 128 ^ l.length * lowv m := by
  induction l with
  | nil => simp [lowv]
  | cons c t ih =>
    simp only [List.cons_append, lowv, List.length_cons, Nat.pow_succ, ih]
    grind
theorem lowv_snoc (l : List (BitVec 8)) (c : BitVec 8) : lowv (l ++ [c]) = lowv l + 128 ^ l.length * (c.toNat % 128) := by
  rw [lowv_append]; simp [lowv]
theorem lowv_take (l : List (BitVec 8)) (k : Nat) (h : k < l.length) : lowv (l.take (k + 1)) = lowv (l.take k) + 128 ^ k * (byA l k % 128) := by
  rw [List.take_succ_eq_append_getElem h, lowv_snoc, List.length_take, Nat.min_eq_left (by omega), byA_in l k h]
theorem lowv_drop (l : List (BitVec 8)) (k : Nat) (h : k < l.length) : lowv (l.drop k) = byA l k % 128 + 128 * lowv (l.drop (k + 1)) := by
  rw [List.drop_eq_getElem_cons h, lowv, byA_in l k h]
theorem uvE_cases (l : List (BitVec 8)) : uvE l = 0 ∨ uvE l = 3 ∨ uvE l = 4 := by
  unfold uvE
  split
  · exact .inr (.inr rfl)
  · split
    · exact .inr (.inl rfl)
    · exact .inl rfl
theorem uvE_ok (l : List (BitVec 8)) (h : uvE l = 0) : kof l < l.length ∧ byA l (kof l) ≤ 127 ∧ (kof l = 9 → byA l (kof l) ≤ 1) ∧ (0 < kof l → 0 < byA l (kof l)) := by
  unfold uvE at h
  split at h
  · omega
  · split at h
    · omega
    · rename_i h1 h2
      have h3 := kof_le l
      have h4 := kof_stop l
      omega
theorem uvE_len (l : List (BitVec 8)) (h : uvE l = 0) : uvN l ≤ l.length := by
  have := (uvE_ok l h).1
  unfold uvN; omega
theorem uvV_lt (l : List (BitVec 8)) (h : uvE l = 0) : uvV l < 18446744073709551616 := by
  obtain ⟨h1, h2, h3, h4⟩ := uvE_ok l h
  have h5 := kof_le l
  unfold uvV
  rw [lowv_take l _ h1]
  have h6 := lowv_lt (l.take (kof l))
  rw [List.length_take, Nat.min_eq_left (by omega)] at h6
  obtain ⟨b, hb⟩ : ∃ b, byA l (kof l) = b := ⟨_, rfl⟩
  rw [hb] at h2 h3 ⊢
  rcases Nat.lt_or_ge (kof l) 9 with h | h
  · have h7 : 128 ^ kof l * (b % 128) ≤ 128 ^ kof l * 127 := Nat.mul_le_mul_left _ (by omega)
    have h8 : 128 ^ kof l ≤ 128 ^ 8 := Nat.pow_le_pow_right (by omega) (by omega)
    omega
  · have h9 : kof l = 9 := by omega
    have := h3 h9
    rw [h9] at h6 ⊢
    have : b % 128 = b := by omega
    rw [this]
    have : 128 ^ 9 * b ≤ 128 ^ 9 * 1 := Nat.mul_le_mul_left _ (by omega)
    omega
/-- The encoding of a number. -/
def putU (n : Nat) : List (BitVec 8) := if h : n < 128 then [BitVec.ofNat 8 n] else BitVec.ofNat 8 (n % 128 + 128) :: putU (n / 128)
termination_by n
theorem putU_small {n : Nat} (h : n < 128) : putU n = [BitVec.ofNat 8 n] := by rw [putU, dif_pos h]
theorem putU_big {n : Nat} (h : ¬ n < 128) : putU n = BitVec.ofNat 8 (n % 128 + 128) :: putU (n / 128) := by rw [putU, dif_neg h]
theorem putU_pos (n : Nat) : 0 < (putU n).length := by rw [putU]; split <;> simp
theorem putU_len (f : Nat) : ∀ n, n < 128 ^ (f + 1) → (putU n).length ≤ f + 1 := by
  induction f with
  | zero => intro n h; rw [putU_small (by omega)]; simp
  | succ f ih =>
    intro n h
    rcases Nat.lt_or_ge n 128 with h1 | h1
    · rw [putU_small h1]; simp
    · rw [putU_big (by omega), List.length_cons]
      have := ih (n / 128) (by rw [Nat.pow_succ] at h; omega)
      omega
theorem putU_len10 {n : Nat} (h : n < 18446744073709551616) : (putU n).length ≤ 10 := putU_len 9 n (by omega)
theorem lowv_putU (n : Nat) : lowv (putU n) = n := by
  induction n using Nat.strongRecOn with
  | ind n ih =>
    rcases Nat.lt_or_ge n 128 with h1 | h1
    · rw [putU_small h1]; simp [lowv]; omega
    · rw [putU_big (by omega)]
      simp only [lowv, BitVec.toNat_ofNat]
      rw [ih (n / 128) (by omega)]
      omega
theorem putU_last (n : Nat) : byA (putU n) ((putU n).length - 1) ≤ 127 ∧ (1 < (putU n).length → 0 < byA (putU n) ((putU n).length - 1)) := by
  induction n using Nat.strongRecOn with
  | ind n ih =>
    rcases Nat.lt_or_ge n 128 with h1 | h1
    · rw [putU_small h1]; simp [byA]; omega
    · rw [putU_big (by omega)]
      obtain ⟨h2, h3⟩ := ih (n / 128) (by omega)
      have hp := putU_pos (n / 128)
      have e : byA (BitVec.ofNat 8 (n % 128 + 128) :: putU (n / 128)) ((BitVec.ofNat 8 (n % 128 + 128) :: putU (n / 128)).length - 1) = byA (putU (n / 128)) ((putU (n / 128)).length - 1) := by
        obtain ⟨m, hm⟩ : ∃ m, (putU (n / 128)).length = m + 1 := ⟨_, (Nat.succ_pred_eq_of_pos hp).symm⟩
        simp [byA, hm]
      rw [e]
      refine ⟨h2, fun _ => ?_⟩
      rcases Nat.lt_or_ge 1 (putU (n / 128)).length with h4 | h4
      · exact h3 h4
      · have h5 : n / 128 < 128 := by
          rcases Nat.lt_or_ge (n / 128) 128 with h | h
          · exact h
          · exfalso
            rw [putU_big (by omega), List.length_cons] at h4
            have := putU_pos (n / 128 / 128)
            omega
        rw [putU_small h5]
        simp [byA]
        omega
theorem putU_big_at (n j : Nat) (h : j + 1 < (putU n).length) : 127 < byA (putU n) j := by
  induction n using Nat.strongRecOn generalizing j with
  | ind n ih =>
    rcases Nat.lt_or_ge n 128 with h1 | h1
    · rw [putU_small h1] at h; simp at h
    · rw [putU_big (by omega)] at h ⊢
      cases j with
      | zero => simp [byA]; omega
      | succ j =>
        have := ih (n / 128) (by omega) j (by simpa using h)
        simpa [byA] using this
theorem byA_append (l m : List (BitVec 8)) (k : Nat) (h : k < l.length) : byA (l ++ m) k = byA l k := by
  simp [byA, List.getD, List.getElem?_append_left h]
/-- What is encoded is decoded, whatever stands behind it. -/
theorem uv_putU (n : Nat) (hn : n < 18446744073709551616) (r : List (BitVec 8)) : uvE (putU n ++ r) = 0 ∧ uvV (putU n ++ r) = n ∧ uvN (putU n ++ r) = (putU n).length := by
  have hp := putU_pos n
  have h10 := putU_len10 hn
  obtain ⟨h1, h2⟩ := putU_last n
  have hk : kof (putU n ++ r) = (putU n).length - 1 := by
    refine kof_is _ _ (fun j hj => ?_) (by omega) (.inr (.inr ?_))
    · rw [byA_append _ _ _ (by omega)]; exact putU_big_at n j (by omega)
    · rw [byA_append _ _ _ (by omega)]; exact h1
  have hv : uvV (putU n ++ r) = n := by
    unfold uvV
    rw [hk, show (putU n).length - 1 + 1 = (putU n).length by omega, List.take_left', lowv_putU]
    rfl
  refine ⟨?_, hv, by unfold uvN; omega⟩
  unfold uvE
  rw [hk, if_neg (by simp; omega), if_neg]
  rw [byA_append _ _ _ (by omega)]
  rintro (⟨h3, h4⟩ | ⟨h3, h4⟩)
  · -- ten groups: the last is at most 1
    have hl : lowv (putU n) = n := lowv_putU n
    have e : putU n = (putU n).take 9 ++ [(putU n).getD 9 0#8] := by
      have hlen : (putU n).length = 10 := by omega
      have := List.take_succ_eq_append_getElem (l := putU n) (i := 9) (by omega)
      rw [List.take_of_length_le (by omega)] at this
      refine this.trans ?_
      simp [List.getD, hlen]
    rw [e, lowv_snoc, List.length_take, Nat.min_eq_left (by omega)] at hl
    have h6 : ((putU n).getD 9 0#8).toNat = byA (putU n) 9 := rfl
    rw [h3] at h1 h4
    rw [h6] at hl
    have : 128 ^ 9 * 2 ≤ 128 ^ 9 * (byA (putU n) 9 % 128) := Nat.mul_le_mul_left _ (by omega)
    omega
  · have := h2 (by omega); omega
theorem byA_cons (c : BitVec 8) (t : List (BitVec 8)) (k : Nat) : byA (c :: t) (k + 1) = byA t k := by simp [byA]
theorem putU_low (k : Nat) : ∀ l : List (BitVec 8), k < l.length → (∀ j, j < k → 127 < byA l j) → byA l k ≤ 127 → (0 < k → 0 < byA l k) → putU (lowv (l.take (k + 1))) = l.take (k + 1) := by
  induction k with
  | zero =>
    intro l h h1 h2 h3
    cases l with
    | nil => simp at h
    | cons c t =>
      simp [byA] at h2
      simp only [List.take_succ_cons, List.take_zero, lowv]
      rw [putU_small (by omega)]
      congr 1
      refine BitVec.eq_of_toNat_eq ?_
      simp; omega
  | succ k ih =>
    intro l h h1 h2 h3
    cases l with
    | nil => simp at h
    | cons c t =>
      have hc : 127 < c.toNat := by have := h1 0 (by omega); simpa [byA] using this
      have := c.isLt
      rw [byA_cons] at h2 h3
      have h4 := ih t (by simpa using h) (fun j hj => by have := h1 (j + 1) (by omega); rwa [byA_cons] at this) h2 (fun _ => h3 (by omega))
      simp only [List.take_succ_cons, lowv]
      have hb := h3 (by omega)
      have hpos : 0 < lowv (t.take (k + 1)) := by
        rw [lowv_take t k (by simpa using h)]
        have : 0 < 128 ^ k * (byA t k % 128) := Nat.mul_pos (Nat.pow_pos (by omega)) (by omega)
        omega
      rw [putU_big (by omega), show (c.toNat % 128 + 128 * lowv (t.take (k + 1))) / 128 = lowv (t.take (k + 1)) by omega, h4]
      congr 1
      refine BitVec.eq_of_toNat_eq ?_
      simp; omega
/-- What is decoded was encoded so. -/
theorem putU_uv (l : List (BitVec 8)) (h : uvE l = 0) : putU (uvV l) = l.take (uvN l) := by
  obtain ⟨h1, h2, h3, h4⟩ := uvE_ok l h
  exact putU_low (kof l) l h1 (fun j hj => kof_big l j hj) h2 h4
/-- Signed numbers: the sign in the last bit. -/
def zz (n : Int) : Nat := if n < 0 then (2 * (-1 - n) + 1).toNat else (2 * n).toNat
def unzz (m : Nat) : Int := if m % 2 = 1 then -1 - (m / 2 : Nat) else (m / 2 : Nat)
theorem unzz_zz (n : Int) : unzz (zz n) = n := by unfold unzz zz; split <;> split <;> omega
theorem zz_unzz (m : Nat) : zz (unzz m) = m := by unfold unzz zz; split <;> split <;> omega
theorem zz_lt {n : Int} (h0 : -9223372036854775808 ≤ n) (h1 : n ≤ 9223372036854775807) : zz n < 18446744073709551616 := by unfold zz; split <;> omega
theorem unzz_in {m : Nat} (h : m < 18446744073709551616) : -9223372036854775808 ≤ unzz m ∧ unzz m ≤ 9223372036854775807 := by unfold unzz; split <;> omega
end Go.Proofs.Ytbplcgbfhijbcaa
