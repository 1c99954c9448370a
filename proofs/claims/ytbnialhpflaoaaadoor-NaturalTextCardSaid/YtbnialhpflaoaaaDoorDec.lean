import Derived.Test.YtbnialhpflaoaaaDoorPK
import Derived.Lib.ItoaNum
import Derived.Lib.Join
import Derived.Lib.Repeat
namespace Go.Proofs.YtbnialhpflaoaaaDoor
open Go.RowKit
set_option linter.unusedVariables false
theorem snoc_ind {α : Type} {p : List α → Prop} (l : List α) (h0 : p []) (h1 : ∀ l c, p l → p (l ++ [c])) : p l := by
  rw [← List.reverse_reverse l]
  generalize l.reverse = m
  induction m with
  | nil => exact h0
  | cons c m ih => rw [List.reverse_cons]; exact h1 _ _ ih
/-- k decimal digits of r. -/
def kd : Nat → Nat → List UInt8
  | 0, _ => []
  | k + 1, r => kd k (r / 10) ++ [UInt8.ofNat (48 + r % 10)]
theorem dec_lt {n : Nat} (h : n < 10) : Lib.decDigits n = [UInt8.ofNat (48 + n)] := by rw [Lib.decDigits, dif_pos h]
theorem dec_ge {n : Nat} (h : ¬ n < 10) : Lib.decDigits n = Lib.decDigits (n / 10) ++ [UInt8.ofNat (48 + n % 10)] := by
  conv => lhs; rw [Lib.decDigits]
  rw [dif_neg h]
theorem dec_kd (k q r : Nat) (hq : 0 < q) (hr : r < 10 ^ k) : Lib.decDigits (q * 10 ^ k + r) = Lib.decDigits q ++ kd k r := by
  induction k generalizing r with
  | zero => simp at hr; subst hr; simp [kd]
  | succ k ih =>
    rw [Nat.pow_succ] at hr
    have hp : 1 ≤ 10 ^ k := Nat.one_le_pow _ _ (by decide)
    have h1 : q * 1 ≤ q * 10 ^ k := Nat.mul_le_mul_left _ hp
    have h2 : q * 10 ^ (k + 1) + r = (q * 10 ^ k) * 10 + r := by rw [Nat.pow_succ, Nat.mul_assoc]
    rw [h2, dec_ge (by omega), show ((q * 10 ^ k) * 10 + r) / 10 = q * 10 ^ k + r / 10 by omega, show ((q * 10 ^ k) * 10 + r) % 10 = r % 10 by omega, ih (r / 10) (by omega), List.append_assoc]
    rfl
theorem kd_zero (k : Nat) : kd k 0 = List.replicate k 48 := by
  induction k with
  | zero => rfl
  | succ k ih => rw [kd, Nat.zero_div, ih, List.replicate_succ']; rfl
theorem dec_len_pos (n : Nat) : 0 < (Lib.decDigits n).length := by
  rcases Nat.lt_or_ge n 10 with h | h
  · rw [dec_lt h]; simp
  · rw [dec_ge (by omega)]; simp
theorem dec_len_le (k n : Nat) (h : n < 10 ^ k) (hk : 0 < k) : (Lib.decDigits n).length ≤ k := by
  induction k generalizing n with
  | zero => omega
  | succ k ih =>
    rcases Nat.lt_or_ge n 10 with h1 | h1
    · rw [dec_lt h1]; simp
    · rw [dec_ge (by omega), List.length_append]
      have hk0 : 0 < k := by
        rcases Nat.eq_zero_or_pos k with h0 | h0
        · subst h0; simp at h; omega
        · exact h0
      have := ih (n / 10) (by rw [Nat.pow_succ] at h; omega) hk0
      simp
      omega
theorem kd_pad (k r : Nat) (h : r < 10 ^ k) (hk : 0 < k) : kd k r = List.replicate (k - (Lib.decDigits r).length) 48 ++ Lib.decDigits r := by
  induction k generalizing r with
  | zero => omega
  | succ k ih =>
    rcases Nat.lt_or_ge r 10 with h1 | h1
    · rw [dec_lt h1, kd, show r / 10 = 0 by omega, show r % 10 = r by omega, kd_zero]
      simp
    · have hk0 : 0 < k := by
        rcases Nat.eq_zero_or_pos k with h0 | h0
        · subst h0; simp at h; omega
        · exact h0
      rw [dec_ge (by omega), kd, ih (r / 10) (by rw [Nat.pow_succ] at h; omega) hk0, List.length_append, List.append_assoc]
      congr 2
      simp
theorem repeat48 (c : Nat) : Lib.repeatL [48] c = List.replicate c 48 := by
  induction c with
  | zero => rfl
  | succ c ih => rw [Lib.repeatL, ih]; rfl
theorem join_empty (xs : List (List UInt8)) : Lib.join xs [] = xs.flatten := by
  unfold Lib.join
  induction xs with
  | nil => rfl
  | cons x xs ih =>
    cases xs with
    | nil => simp [List.intercalate]
    | cons y ys =>
      rw [List.flatten_cons, ← ih]
      simp [List.intercalate]
/-- The value of decimal digits. -/
def dvF (v : Nat) : List UInt8 → Nat
  | [] => v
  | c :: l => dvF (v * 10 + (c.toNat - 48)) l
def dv (l : List UInt8) : Nat := dvF 0 l
theorem dvF_snoc (v : Nat) (l : List UInt8) (c : UInt8) : dvF v (l ++ [c]) = dvF v l * 10 + (c.toNat - 48) := by
  induction l generalizing v with
  | nil => rfl
  | cons x l ih => exact ih _
theorem dv_snoc (l : List UInt8) (c : UInt8) : dv (l ++ [c]) = dv l * 10 + (c.toNat - 48) := dvF_snoc 0 l c
theorem dvF_append (v : Nat) (l m : List UInt8) : dvF v (l ++ m) = dvF (dvF v l) m := by
  induction l generalizing v with
  | nil => rfl
  | cons x l ih => exact ih _
theorem dvF_eq (v : Nat) (l : List UInt8) : dvF v l = v * 10 ^ l.length + dv l := by
  refine snoc_ind (p := fun l => dvF v l = v * 10 ^ l.length + dv l) l ?_ ?_
  · show v = v * 10 ^ 0 + 0
    rw [Nat.pow_zero]; omega
  · intro l c ih
    rw [dvF_snoc, dv_snoc, ih, List.length_append, List.length_singleton, Nat.pow_succ, Nat.add_mul, Nat.mul_assoc, Nat.add_assoc]
theorem dv_append (l m : List UInt8) : dv (l ++ m) = dv l * 10 ^ m.length + dv m := by
  unfold dv
  rw [dvF_append, dvF_eq]
  rfl
/-- All bytes are decimal digits. -/
def digs (l : List UInt8) : Bool := l.all fun c => decide (48 ≤ c.toNat) && decide (c.toNat ≤ 57)
theorem digs_append (l m : List UInt8) : digs (l ++ m) = (digs l && digs m) := List.all_append
theorem digs_mem {l : List UInt8} (h : digs l = true) (c : UInt8) (hc : c ∈ l) : 48 ≤ c.toNat ∧ c.toNat ≤ 57 := by
  have := List.all_eq_true.1 h c hc
  simpa using this
theorem dv_lt {l : List UInt8} (h : digs l = true) : dv l < 10 ^ l.length := by
  induction l using snoc_ind with
  | h0 => exact Nat.one_pos
  | h1 l c ih =>
    have h1 : digs l = true := by rw [digs_append, Bool.and_eq_true] at h; exact h.1
    have h2 := digs_mem h c (by simp)
    have h3 := ih h1
    rw [dv_snoc, List.length_append, List.length_singleton, Nat.pow_succ]
    omega
/-- A decimal text without leading zeros. -/
def isDec (l : List UInt8) : Bool := decide (l ≠ []) && !(decide (1 < l.length) && decide (l.head? = some 48)) && digs l
theorem toNat_dig {d : Nat} (h : d < 10) : (UInt8.ofNat (48 + d)).toNat = 48 + d := by
  show (BitVec.ofNat 8 (48 + d)).toNat = _
  rw [BitVec.toNat_ofNat]
  omega
theorem dec_digs (n : Nat) : digs (Lib.decDigits n) = true := by
  induction n using Nat.strongRecOn with
  | _ n ih =>
    rcases Nat.lt_or_ge n 10 with h | h
    · rw [dec_lt h]
      simp only [digs, List.all_cons, List.all_nil, Bool.and_true, toNat_dig h]
      simp
      omega
    · rw [dec_ge (by omega)]
      have h1 := ih (n / 10) (by omega)
      simp only [digs, List.all_append, List.all_cons, List.all_nil, Bool.and_true, toNat_dig (Nat.mod_lt n (show 0 < 10 by omega))] at h1 ⊢
      rw [h1]
      simp
      omega
theorem dec_head (n : Nat) (h0 : 0 < n) : (Lib.decDigits n).head? ≠ some 48 := by
  induction n using Nat.strongRecOn with
  | _ n ih =>
    rcases Nat.lt_or_ge n 10 with h | h
    · rw [dec_lt h]
      intro e
      simp only [List.head?_cons, Option.some.injEq] at e
      have := congrArg UInt8.toNat e
      rw [toNat_dig h] at this
      have e48 : (48 : UInt8).toNat = 48 := rfl
      omega
    · rw [dec_ge (by omega)]
      have h1 := ih (n / 10) (by omega) (by omega)
      have h2 := dec_len_pos (n / 10)
      generalize Lib.decDigits (n / 10) = t at h1 h2
      cases t with
      | nil => simp at h2
      | cons c t => exact h1
theorem dec_isDec (n : Nat) : isDec (Lib.decDigits n) = true := by
  have h1 := dec_len_pos n
  have h2 : Lib.decDigits n ≠ [] := by intro e; rw [e] at h1; simp at h1
  unfold isDec
  rw [dec_digs, Bool.and_true]
  rcases Nat.eq_zero_or_pos n with h | h
  · subst h
    rw [dec_lt (by omega)]
    simp
  · have := dec_head n h
    simp [h2, this]
theorem dv_dec (n : Nat) : dv (Lib.decDigits n) = n := by
  induction n using Nat.strongRecOn with
  | _ n ih =>
    rcases Nat.lt_or_ge n 10 with h | h
    · rw [dec_lt h]
      show 0 * 10 + ((UInt8.ofNat (48 + n)).toNat - 48) = n
      rw [toNat_dig h]
      omega
    · rw [dec_ge (by omega), dv_snoc, ih (n / 10) (by omega), toNat_dig (Nat.mod_lt n (by omega))]
      omega
theorem ofNat_dig {c : UInt8} (h1 : 48 ≤ c.toNat) : UInt8.ofNat (48 + (c.toNat - 48)) = c := by
  rw [show 48 + (c.toNat - 48) = c.toNat by omega]
  exact UInt8.ofNat_toNat
theorem dec_dv_pos (l : List UInt8) (hne : l ≠ []) (hh : l.head? ≠ some 48) (hd : digs l = true) : 0 < dv l ∧ Lib.decDigits (dv l) = l := by
  induction l using snoc_ind with
  | h0 => exact absurd rfl hne
  | h1 l c ih =>
    have hc := digs_mem hd c (by simp)
    rcases l with _ | ⟨x, l⟩
    · have hc48 : c.toNat ≠ 48 := by
        intro e
        apply hh
        rw [show c = 48 from UInt8.toNat_inj.1 e]
        rfl
      have e : dv ([] ++ [c]) = c.toNat - 48 := by rw [dv_snoc, show dv [] = 0 from rfl]; omega
      rw [e, dec_lt (by omega), ofNat_dig hc.1]
      exact ⟨by omega, rfl⟩
    · have h1 : digs (x :: l) = true := by rw [digs_append, Bool.and_eq_true] at hd; exact hd.1
      obtain ⟨h2, h3⟩ := ih (by simp) (by simpa using hh) h1
      rw [dv_snoc]
      refine ⟨by omega, ?_⟩
      rw [dec_ge (by omega), show (dv (x :: l) * 10 + (c.toNat - 48)) / 10 = dv (x :: l) by omega, show (dv (x :: l) * 10 + (c.toNat - 48)) % 10 = c.toNat - 48 by omega, h3, ofNat_dig hc.1]
theorem dec_dv {l : List UInt8} (h : isDec l = true) : Lib.decDigits (dv l) = l := by
  unfold isDec at h
  simp only [Bool.and_eq_true, decide_eq_true_eq, Bool.not_eq_true', Bool.and_eq_false_iff, decide_eq_false_iff_not] at h
  obtain ⟨⟨h1, h2⟩, h3⟩ := h
  rcases h2 with h2 | h2
  · obtain ⟨c, rfl⟩ : ∃ c, l = [c] := by
      rcases l with _ | ⟨c, _ | ⟨d, l⟩⟩
      · exact absurd rfl h1
      · exact ⟨c, rfl⟩
      · simp at h2
    have hc := digs_mem h3 c (by simp)
    have e : dv [c] = c.toNat - 48 := by show 0 * 10 + (c.toNat - 48) = _; omega
    rw [e, dec_lt (by omega), ofNat_dig hc.1]
  · exact (dec_dv_pos l h1 h2 h3).2
end Go.Proofs.YtbnialhpflaoaaaDoor
