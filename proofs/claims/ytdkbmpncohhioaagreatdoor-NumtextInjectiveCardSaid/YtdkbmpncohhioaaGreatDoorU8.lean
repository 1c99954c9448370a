
import Derived.Test.YtdkbmpncohhioaaGreatDoorU7
import Derived.Test.YtdkbmpncohhioaaGreatDoorPH
import Derived.Lib.ItoaNum
import Derived.Lib.Join
import Derived.Lib.Repeat
import Derived.Test.YtdkbmpncohhioaaGreatDoorU6
import Derived.Sort.OwnSorted
import Derived.Laws.BytesArg
/- PJ -/

namespace Go.Proofs.YtdkbmpncohhioaaGreatDoor
open Go.RowKit
set_option linter.unusedVariables false
set_option linter.unusedSimpArgs false
/-- r is the square root of V, rounded down. -/
def IsSq (V r : Nat) : Prop := r * r ≤ V ∧ V < (r + 1) * (r + 1)
theorem isSq_uniq {V r s : Nat} (h : IsSq V r) (k : IsSq V s) : r = s := by
  have key : ∀ x y, IsSq V x → IsSq V y → ¬ x < y := by
    intro x y hx hy h
    have h1 : (x + 1) * (x + 1) ≤ y * y := Nat.mul_le_mul h h
    have h2 := hx.2
    have h3 := hy.1
    omega
  have h1 := key r s h k
  have h2 := key s r k h
  omega
/-- Newton's step from above stays above. -/
theorem newton_above (V x q y : Nat) (hx : 0 < x) (hq : V / x = q) (hy : (x + q) / 2 = y) : V < (y + 1) * (y + 1) := by
  have h1 : V < (q + 1) * x := by rw [← hq]; exact Nat.lt_mul_of_div_lt (Nat.lt_succ_self _) hx
  have h2 : x + (q + 1) ≤ 2 * (y + 1) := by omega
  have h3 : (x + (q + 1)) * (x + (q + 1)) ≤ (2 * (y + 1)) * (2 * (y + 1)) := Nat.mul_le_mul h2 h2
  have h4 : 4 * ((q + 1) * x) ≤ (x + (q + 1)) * (x + (q + 1)) := by
    generalize q + 1 = z
    rcases Nat.le_total x z with h | h
    · obtain ⟨d, rfl⟩ := Nat.le.dest h
      have : (x + (x + d)) * (x + (x + d)) = 4 * ((x + d) * x) + d * d := by grind
      omega
    · obtain ⟨d, rfl⟩ := Nat.le.dest h
      have : (z + d + z) * (z + d + z) = 4 * (z * (z + d)) + d * d := by grind
      omega
  have h5 : (2 * (y + 1)) * (2 * (y + 1)) = 4 * ((y + 1) * (y + 1)) := by grind
  omega
theorem newton_end (V x q : Nat) (hx : 0 < x) (hq : V / x = q) (hy : x ≤ (x + q) / 2) : x * x ≤ V := by
  have h1 : x ≤ V / x := by omega
  exact (Nat.le_div_iff_mul_le hx).1 h1
theorem newton_start (V b e : Nat) (hb : V < 2 ^ b) (he : (b + 1) / 2 = e) : V < (2 ^ e + 1) * (2 ^ e + 1) := by
  have h1 : 2 ^ b ≤ 2 ^ (e + e) := Nat.pow_le_pow_right (by decide) (by omega)
  rw [Nat.pow_add] at h1
  have h2 : 2 ^ e * 2 ^ e ≤ (2 ^ e + 1) * (2 ^ e + 1) := Nat.mul_le_mul (by omega) (by omega)
  omega
theorem pow_row (e k t : Nat) (hk : e / 32 = k) (ht : e % 32 = t) : (zer (k + 1)).set k (BitVec.ofNat 32 (2 ^ t)) = canon (2 ^ e) := by
  have hp : 2 ^ t < 4294967296 := Nat.lt_of_lt_of_le (Nat.pow_lt_pow_right (by decide) (show t < 32 by omega)) (by decide)
  have hl : k < (zer (k + 1)).length := by simp [zer]
  have hv := valD_set (zer (k + 1)) k (BitVec.ofNat 32 (2 ^ t)) hl
  have hz : (zer (k + 1))[k] = 0#32 := by simp [zer]
  have e00 : (0#32).toNat = 0 := rfl
  have hz2 : valD (zer (k + 1)) = 0 := valD_zeros _
  rw [hz, e00, hz2, Nat.mul_zero, Nat.add_zero, Nat.zero_add, BitVec.toNat_ofNat, Nat.mod_eq_of_lt hp, pw_two, ← Nat.pow_add, show 32 * k + t = e by omega] at hv
  have ht2 : trimD ((zer (k + 1)).set k (BitVec.ofNat 32 (2 ^ t))) = (zer (k + 1)).set k (BitVec.ofNat 32 (2 ^ t)) := by
    have hs : (zer (k + 1)).set k (BitVec.ofNat 32 (2 ^ t)) = zer k ++ [BitVec.ofNat 32 (2 ^ t)] := by
      rw [show zer (k + 1) = zer k ++ [0#32] by simp [zer, List.replicate_succ'], List.set_append_right _ _ (by simp [zer])]
      simp [zer]
    rw [hs]
    apply trim_snoc
    intro h
    have h1 := congrArg BitVec.toNat h
    rw [BitVec.toNat_ofNat, Nat.mod_eq_of_lt hp, e00] at h1
    have := Nat.two_pow_pos t
    omega
  rw [← ht2, ← canon_val, hv]
theorem pow_fit (e n : Nat) (h : e < 32 * n) : (canon (2 ^ e)).length ≤ n := by
  rw [canon_len_le, pw_two]
  exact Nat.pow_lt_pow_right (by decide) h
theorem bl_le {V b n : Nat} (h : IsBl V b) (hV : V < pw n) : b ≤ 32 * n := by
  rcases Nat.eq_zero_or_pos V with h0 | h0
  · rw [h.2.1 h0]; exact Nat.zero_le _
  · obtain ⟨h1, h2⟩ := h.2.2 h0
    rcases Nat.lt_or_ge (32 * n) b with h3 | h3
    · have h4 : 2 ^ (32 * n) ≤ 2 ^ (b - 1) := Nat.pow_le_pow_right (by decide) (by omega)
      rw [pw_two] at hV
      omega
    · exact h3
def SqR (w : World) (V : Nat) (r : Value) (wr : World) : Prop := ∃ (a : Option Addr) (c : Nat) (X : List (BitVec 32)), r = .slice a X.length c ∧ X.length ≤ c ∧ X.length ≤ 800000 ∧ 0 < valD X ∧ Hid (V < (valD X + 1) * (valD X + 1) ∧ trimD X = X) ∧ RwF w.heap.size wr a X ∧ Below w.heap.size w wr
theorem shV_half (V : Nat) : shV V (-1) = V / 2 := by
  unfold shV
  rw [if_neg (by omega)]
  rfl
theorem cmpN_ge' {x y : Nat} (h : y ≤ x) : ∃ v : Int, cmpN x y = v ∧ decide (0 ≤ v) = true := by
  rcases Nat.lt_or_eq_of_le h with h1 | h1
  · exact ⟨1, cmpN_gt h1, rfl⟩
  · subst h1
    exact ⟨0, cmpN_eq _, rfl⟩
end Go.Proofs.YtdkbmpncohhioaaGreatDoor

/- PK -/

namespace Go.Proofs.YtdkbmpncohhioaaGreatDoor
open Go.RowKit
set_option linter.unusedVariables false
set_option linter.unusedSimpArgs false
/-- The root found so far: its lower i binary digits are still 0. -/
def RqR (w : World) (V N : Nat) (r i : Value) (wr : World) : Prop := ∃ (p : Nat) (a : Option Addr) (c ρ : Nat) (X : List (BitVec 32)), i = .int .i64 ((p : Int) - 1) ∧ p ≤ N ∧ r = .slice a X.length c ∧ X.length ≤ 200000 ∧
  Hid (X = canon ρ ∧ valD X = ρ ∧ ρ * ρ ≤ V ∧ V < (ρ + 2 ^ p) * (ρ + 2 ^ p)) ∧ Rw wr a X ∧ Below w.heap.size w wr
theorem below_of_eq {w w' : World} (h : w = w') : Below w.heap.size w w' := h ▸ Below.refl _ _
theorem sq_start (V b : Nat) (h : V < 2 ^ b) : V < (0 + 2 ^ (b / 2 + 1)) * (0 + 2 ^ (b / 2 + 1)) := by
  rw [Nat.zero_add, ← Nat.pow_add]
  exact Nat.lt_of_lt_of_le h (Nat.pow_le_pow_right (by decide) (by omega))
theorem sq_up (r p : Nat) : r + 2 ^ p + 2 ^ p = r + 2 ^ (p + 1) := by rw [Nat.pow_succ]; omega
theorem sq_le {x y : Nat} (h : x * x ≤ y * y) : x ≤ y := by
  rcases Nat.lt_or_ge y x with h1 | h1
  · have := Nat.mul_lt_mul_of_lt_of_lt h1 h1
    omega
  · exact h1
theorem root_lt {V r n : Nat} (h : r * r ≤ V) (hV : V < pw n) : r < pw n := by
  rcases Nat.lt_or_ge r (pw n) with h1 | h1
  · exact h1
  · have h2 : pw n * 1 ≤ r * r := Nat.mul_le_mul h1 (by have := pw_pos n; omega)
    omega
end Go.Proofs.YtdkbmpncohhioaaGreatDoor

/- Dec -/
namespace Go.Proofs.YtdkbmpncohhioaaGreatDoor
open Go.RowKit
set_option linter.unusedVariables false
theorem snoc_ind {α : Type} {p : List α → Prop} (l : List α) (h0 : p []) (h1 : ∀ l c, p l → p (l ++ [c])) : p l := by
  rw [← List.reverse_reverse l]
  generalize l.reverse = m
  induction m with
  | nil => exact h0
  | cons c m ih => rw [List.reverse_cons]; exact h1 _ _ ih
/-- k decimal digits of r. -/
def kd : Nat → Nat → List UInt8
  | 0, _ => []
  | k + 1, r => kd k (r / 10) ++ [UInt8.ofNat (48 + r % 10)]
theorem dec_lt {n : Nat} (h : n < 10) : Lib.decDigits n = [UInt8.ofNat (48 + n)] := by rw [Lib.decDigits, dif_pos h]
theorem dec_ge {n : Nat} (h : ¬ n < 10) : Lib.decDigits n = Lib.decDigits (n / 10) ++ [UInt8.ofNat (48 + n % 10)] := by
  conv => lhs; rw [Lib.decDigits]
  rw [dif_neg h]
theorem dec_kd (k q r : Nat) (hq : 0 < q) (hr : r < 10 ^ k) : Lib.decDigits (q * 10 ^ k + r) = Lib.decDigits q ++ kd k r := by
  induction k generalizing r with
  | zero => simp at hr; subst hr; simp [kd]
  | succ k ih =>
    rw [Nat.pow_succ] at hr
    have hp : 1 ≤ 10 ^ k := Nat.one_le_pow _ _ (by decide)
    have h1 : q * 1 ≤ q * 10 ^ k := Nat.mul_le_mul_left _ hp
    have h2 : q * 10 ^ (k + 1) + r = (q * 10 ^ k) * 10 + r := by rw [Nat.pow_succ, Nat.mul_assoc]
    rw [h2, dec_ge (by omega), show ((q * 10 ^ k) * 10 + r) / 10 = q * 10 ^ k + r / 10 by omega, show ((q * 10 ^ k) * 10 + r) % 10 = r % 10 by omega, ih (r / 10) (by omega), List.append_assoc]
    rfl
theorem kd_zero (k : Nat) : kd k 0 = List.replicate k 48 := by
  induction k with
  | zero => rfl
  | succ k ih => rw [kd, Nat.zero_div, ih, List.replicate_succ']; rfl
theorem dec_len_pos (n : Nat) : 0 < (Lib.decDigits n).length := by
  rcases Nat.lt_or_ge n 10 with h | h
  · rw [dec_lt h]; simp
  · rw [dec_ge (by omega)]; simp
theorem dec_len_le (k n : Nat) (h : n < 10 ^ k) (hk : 0 < k) : (Lib.decDigits n).length ≤ k := by
  induction k generalizing n with
  | zero => omega
  | succ k ih =>
    rcases Nat.lt_or_ge n 10 with h1 | h1
    · rw [dec_lt h1]; simp
    · rw [dec_ge (by omega), List.length_append]
      have hk0 : 0 < k := by
        rcases Nat.eq_zero_or_pos k with h0 | h0
        · subst h0; simp at h; omega
        · exact h0
      have := ih (n / 10) (by rw [Nat.pow_succ] at h; omega) hk0
      simp
      omega
theorem kd_pad (k r : Nat) (h : r < 10 ^ k) (hk : 0 < k) : kd k r = List.replicate (k - (Lib.decDigits r).length) 48 ++ Lib.decDigits r := by
  induction k generalizing r with
  | zero => omega
  | succ k ih =>
    rcases Nat.lt_or_ge r 10 with h1 | h1
    · rw [dec_lt h1, kd, show r / 10 = 0 by omega, show r % 10 = r by omega, kd_zero]
      simp
    · have hk0 : 0 < k := by
        rcases Nat.eq_zero_or_pos k with h0 | h0
        · subst h0; simp at h; omega
        · exact h0
      rw [dec_ge (by omega), kd, ih (r / 10) (by rw [Nat.pow_succ] at h; omega) hk0, List.length_append, List.append_assoc]
      congr 2
      simp
theorem repeat48 (c : Nat) : Lib.repeatL [48] c = List.replicate c 48 := by
  induction c with
  | zero => rfl
  | succ c ih => rw [Lib.repeatL, ih]; rfl
theorem join_empty (xs : List (List UInt8)) : Lib.join xs [] = xs.flatten := by
  unfold Lib.join
  induction xs with
  | nil => rfl
  | cons x xs ih =>
    cases xs with
    | nil => simp [List.intercalate]
    | cons y ys =>
      rw [List.flatten_cons, ← ih]
      simp [List.intercalate]
/-- The value of decimal digits. -/
def dvF (v : Nat) : List UInt8 → Nat
  | [] => v
  | c :: l => dvF (v * 10 + (c.toNat - 48)) l
def dv (l : List UInt8) : Nat := dvF 0 l
theorem dvF_snoc (v : Nat) (l : List UInt8) (c : UInt8) : dvF v (l ++ [c]) = dvF v l * 10 + (c.toNat - 48) := by
  induction l generalizing v with
  | nil => rfl
  | cons x l ih => exact ih _
theorem dv_snoc (l : List UInt8) (c : UInt8) : dv (l ++ [c]) = dv l * 10 + (c.toNat - 48) := dvF_snoc 0 l c
theorem dvF_append (v : Nat) (l m : List UInt8) : dvF v (l ++ m) = dvF (dvF v l) m := by
  induction l generalizing v with
  | nil => rfl
  | cons x l ih => exact ih _
theorem dvF_eq (v : Nat) (l : List UInt8) : dvF v l = v * 10 ^ l.length + dv l := by
  refine snoc_ind (p := fun l => dvF v l = v * 10 ^ l.length + dv l) l ?_ ?_
  · show v = v * 10 ^ 0 + 0
    rw [Nat.pow_zero]; omega
  · intro l c ih
    rw [dvF_snoc, dv_snoc, ih, List.length_append, List.length_singleton, Nat.pow_succ, Nat.add_mul, Nat.mul_assoc, Nat.add_assoc]
theorem dv_append (l m : List UInt8) : dv (l ++ m) = dv l * 10 ^ m.length + dv m := by
  unfold dv
  rw [dvF_append, dvF_eq]
  rfl
/-- All bytes are decimal digits. -/
def digs (l : List UInt8) : Bool := l.all fun c => decide (48 ≤ c.toNat) && decide (c.toNat ≤ 57)
theorem digs_append (l m : List UInt8) : digs (l ++ m) = (digs l && digs m) := List.all_append
theorem digs_mem {l : List UInt8} (h : digs l = true) (c : UInt8) (hc : c ∈ l) : 48 ≤ c.toNat ∧ c.toNat ≤ 57 := by
  have := List.all_eq_true.1 h c hc
  simpa using this
theorem dv_lt {l : List UInt8} (h : digs l = true) : dv l < 10 ^ l.length := by
  induction l using snoc_ind with
  | h0 => exact Nat.one_pos
  | h1 l c ih =>
    have h1 : digs l = true := by rw [digs_append, Bool.and_eq_true] at h; exact h.1
    have h2 := digs_mem h c (by simp)
    have h3 := ih h1
    rw [dv_snoc, List.length_append, List.length_singleton, Nat.pow_succ]
    omega
/-- A decimal text without leading zeros. -/
def isDec (l : List UInt8) : Bool := decide (l ≠ []) && !(decide (1 < l.length) && decide (l.head? = some 48)) && digs l
theorem toNat_dig {d : Nat} (h : d < 10) : (UInt8.ofNat (48 + d)).toNat = 48 + d := by
  show (BitVec.ofNat 8 (48 + d)).toNat = _
  rw [BitVec.toNat_ofNat]
  omega
theorem dec_digs (n : Nat) : digs (Lib.decDigits n) = true := by
  induction n using Nat.strongRecOn with
  | _ n ih =>
    rcases Nat.lt_or_ge n 10 with h | h
    · rw [dec_lt h]
      simp only [digs, List.all_cons, List.all_nil, Bool.and_true, toNat_dig h]
      simp
      omega
    · rw [dec_ge (by omega)]
      have h1 := ih (n / 10) (by omega)
      simp only [digs, List.all_append, List.all_cons, List.all_nil, Bool.and_true, toNat_dig (Nat.mod_lt n (show 0 < 10 by omega))] at h1 ⊢
      rw [h1]
      simp
      omega
theorem dec_head (n : Nat) (h0 : 0 < n) : (Lib.decDigits n).head? ≠ some 48 := by
  induction n using Nat.strongRecOn with
  | _ n ih =>
    rcases Nat.lt_or_ge n 10 with h | h
    · rw [dec_lt h]
      intro e
      simp only [List.head?_cons, Option.some.injEq] at e
      have := congrArg UInt8.toNat e
      rw [toNat_dig h] at this
      have e48 : (48 : UInt8).toNat = 48 := rfl
      omega
    · rw [dec_ge (by omega)]
      have h1 := ih (n / 10) (by omega) (by omega)
      have h2 := dec_len_pos (n / 10)
      generalize Lib.decDigits (n / 10) = t at h1 h2
      cases t with
      | nil => simp at h2
      | cons c t => exact h1
theorem dec_isDec (n : Nat) : isDec (Lib.decDigits n) = true := by
  have h1 := dec_len_pos n
  have h2 : Lib.decDigits n ≠ [] := by intro e; rw [e] at h1; simp at h1
  unfold isDec
  rw [dec_digs, Bool.and_true]
  rcases Nat.eq_zero_or_pos n with h | h
  · subst h
    rw [dec_lt (by omega)]
    simp
  · have := dec_head n h
    simp [h2, this]
theorem dv_dec (n : Nat) : dv (Lib.decDigits n) = n := by
  induction n using Nat.strongRecOn with
  | _ n ih =>
    rcases Nat.lt_or_ge n 10 with h | h
    · rw [dec_lt h]
      show 0 * 10 + ((UInt8.ofNat (48 + n)).toNat - 48) = n
      rw [toNat_dig h]
      omega
    · rw [dec_ge (by omega), dv_snoc, ih (n / 10) (by omega), toNat_dig (Nat.mod_lt n (by omega))]
      omega
theorem ofNat_dig {c : UInt8} (h1 : 48 ≤ c.toNat) : UInt8.ofNat (48 + (c.toNat - 48)) = c := by
  rw [show 48 + (c.toNat - 48) = c.toNat by omega]
  exact UInt8.ofNat_toNat
theorem dec_dv_pos (l : List UInt8) (hne : l ≠ []) (hh : l.head? ≠ some 48) (hd : digs l = true) : 0 < dv l ∧ Lib.decDigits (dv l) = l := by
  induction l using snoc_ind with
  | h0 => exact absurd rfl hne
  | h1 l c ih =>
    have hc := digs_mem hd c (by simp)
    rcases l with _ | ⟨x, l⟩
    · have hc48 : c.toNat ≠ 48 := by
        intro e
        apply hh
        rw [show c = 48 from UInt8.toNat_inj.1 e]
        rfl
      have e : dv ([] ++ [c]) = c.toNat - 48 := by rw [dv_snoc, show dv [] = 0 from rfl]; omega
      rw [e, dec_lt (by omega), ofNat_dig hc.1]
      exact ⟨by omega, rfl⟩
    · have h1 : digs (x :: l) = true := by rw [digs_append, Bool.and_eq_true] at hd; exact hd.1
      obtain ⟨h2, h3⟩ := ih (by simp) (by simpa using hh) h1
      rw [dv_snoc]
      refine ⟨by omega, ?_⟩
      rw [dec_ge (by omega), show (dv (x :: l) * 10 + (c.toNat - 48)) / 10 = dv (x :: l) by omega, show (dv (x :: l) * 10 + (c.toNat - 48)) % 10 = c.toNat - 48 by omega, h3, ofNat_dig hc.1]
theorem dec_dv {l : List UInt8} (h : isDec l = true) : Lib.decDigits (dv l) = l := by
  unfold isDec at h
  simp only [Bool.and_eq_true, decide_eq_true_eq, Bool.not_eq_true', Bool.and_eq_false_iff, decide_eq_false_iff_not] at h
  obtain ⟨⟨h1, h2⟩, h3⟩ := h
  rcases h2 with h2 | h2
  · obtain ⟨c, rfl⟩ : ∃ c, l = [c] := by
      rcases l with _ | ⟨c, _ | ⟨d, l⟩⟩
      · exact absurd rfl h1
      · exact ⟨c, rfl⟩
      · simp at h2
    have hc := digs_mem h3 c (by simp)
    have e : dv [c] = c.toNat - 48 := by show 0 * 10 + (c.toNat - 48) = _; omega
    rw [e, dec_lt (by omega), ofNat_dig hc.1]
  · exact (dec_dv_pos l h1 h2 h3).2
end Go.Proofs.YtdkbmpncohhioaaGreatDoor

/- PL -/
namespace Go.Proofs.YtdkbmpncohhioaaGreatDoor
open Go.RowKit
set_option linter.unusedVariables false
set_option linter.unusedSimpArgs false
/-- A text as a value. -/
def sv (l : List UInt8) : Value := .string ⟨l.toArray⟩
theorem sv_one (l : List UInt8) : ∀ u ∈ [sv l], u.oneCell' = true := by
  intro u hu
  simp at hu
  subst hu
  rfl
theorem str_one (b : ByteArray) : ∀ u ∈ [Value.string b], u.oneCell' = true := by
  intro u hu
  simp at hu
  subst hu
  rfl
theorem itoa_nat (r : Nat) : Lib.itoa (r : Int) = Lib.decDigits r := by
  unfold Lib.itoa
  rw [if_neg (by omega), Int.toNat_natCast]
theorem cat_arr (l m : List UInt8) : (⟨l.toArray⟩ : ByteArray) ++ ⟨m.toArray⟩ = ⟨(l ++ m).toArray⟩ := by
  apply ByteArray.ext
  simp [ByteArray.data_append]
theorem flat_len (zs : List (List UInt8)) (h : ∀ z ∈ zs, 0 < z.length) : zs.length ≤ zs.flatten.length := by
  induction zs with
  | nil => simp
  | cons z zs ih =>
    have h1 := h z (by simp)
    have h2 := ih fun y hy => h y (by simp [hy])
    simp at h2 ⊢
    omega
theorem flat_snoc (zs : List (List UInt8)) (z : List UInt8) : ((zs ++ [z]).reverse).flatten = z ++ zs.reverse.flatten := by simp
/-- The pieces written so far stand behind what is still to be written. -/
def FgR (w : World) (n0 N : Nat) (r ch : Value) (wr : World) : Prop := ∃ (g c : Nat) (Q : List (BitVec 32)) (zs : List (List UInt8)) (chv : Value), r = .slice (some ⟨g, 0, none⟩) Q.length c ∧ chv = ch ∧ Q.length ≤ N ∧
  Hid (trimD Q = Q ∧ Lib.decDigits n0 = (if valD Q = 0 then [] else Lib.decDigits (valD Q)) ++ zs.reverse.flatten ∧ ∀ z ∈ zs, 0 < z.length) ∧ zs.length ≤ 1000000 ∧
  wr.ownsRow w.heap.size 42 1 (.slice (some ⟨g, 0, none⟩) Q.length c) Q.length (bv32 Q) ∧ wr.ownsRow w.heap.size 9 1 chv zs.length (zs.map sv) ∧ chv.ownBlock ≠ some g ∧ Below w.heap.size w wr
theorem big_dec (N n : Nat) (h : n < pw N) (hN : 0 < N) : (Lib.decDigits n).length ≤ 10 * N := by
  apply dec_len_le _ _ _ (by omega)
  refine Nat.lt_of_lt_of_le h ?_
  unfold pw
  rw [Nat.pow_mul]
  exact Nat.pow_le_pow_left (by decide) _
theorem rev_str (B h c2 : Nat) (zs : List (List UInt8)) (w : World) (hown : w.ownsRow B 9 1 (.slice (some ⟨h, 0, none⟩) zs.length c2) zs.length (zs.map sv)) :
    Calls Tryz.prog 87 #[.slice (some ⟨h, 0, none⟩) zs.length c2] w fun e w' => e = .returned (.tuple #[]) ∧ w'.ownsRow B 9 1 (.slice (some ⟨h, 0, none⟩) zs.length c2) zs.length (zs.reverse.map sv) ∧ w.grownBy w' (some h) := by
  have h0 := hown.1
  rcases hown.2 with ⟨h1, h2⟩ | ⟨g', cap, cur, h1, h2, h3, h4, h5, h6, h7⟩
  · injection h1 with h1; cases h1
  · injection h1 with e1 e2 e3
    injection e1 with e1
    injection e1 with e1
    subst e1 e3
    rw [Nat.mul_one] at h7
    have hH := holds_of_block h3 h7
    refine (Tryz.slices_Reverse_string h 0 c2 zs w hH (by unfold maxLen at h5; omega)).mono ?_
    rintro e w' ⟨rfl, n, rfl⟩
    refine ⟨rfl, ?_, ?_⟩
    · have := ownsRow_sorted (n := n) (os := #[]) (ts := zs.reverse) (by simp) h2 h3 h4 h5 h6
      exact this
    · exact grownBy_sorted (os := #[]) zs.reverse.toArray
theorem join_str (B h c2 : Nat) (zs : List (List UInt8)) (w : World) (hl : zs.flatten.length ≤ 140737488355328) (hn : zs.length ≤ 1000000) (hz : 0 < zs.length) (hown : w.ownsRow B 9 1 (.slice (some ⟨h, 0, none⟩) zs.length c2) zs.length (zs.map sv)) :
    Calls Tryz.prog 88 #[.slice (some ⟨h, 0, none⟩) zs.length c2, .string ⟨#[]⟩] w fun e w' => e = .returned (sv zs.flatten) ∧ Below w.heap.size w w' := by
  have hm : (zs.map fun z => (⟨z.toArray⟩ : ByteArray)).map (·.data.toList) = zs := by
    rw [List.map_map]
    conv => rhs; rw [← List.map_id zs]
    exact List.map_congr_left fun z _ => rfl
  have hJ := Tryz.strings_Join h 0 c2 (zs.map fun z => ⟨z.toArray⟩) ⟨#[]⟩ w ?_ (own_ge hown).2 (by rw [List.length_map]; omega) (by rw [List.length_map]; exact own_cap hown) ?_
  · rw [hm, List.length_map] at hJ
    refine hJ.mono ?_
    rintro e w' ⟨rfl, hb⟩
    refine ⟨?_, hb⟩
    show Ending.returned (.string ⟨(Lib.join zs []).toArray⟩) = _
    rw [join_empty]
    rfl
  · intro j x hx
    rw [List.getElem?_map, Option.map_eq_some_iff] at hx
    obtain ⟨z, hz2, rfl⟩ := hx
    have hj : (zs.map sv)[j]? = some (sv z) := by rw [List.getElem?_map, hz2]; rfl
    rw [Nat.zero_add]
    exact own_cell hown j _ hj
  · rw [hm]
    show (Lib.join zs []).length ≤ _
    rw [join_empty]
    exact hl
set_option maxRecDepth 50000 in
set_option maxHeartbeats 2000000 in
theorem nformat_any (a : Option Addr) (n c : Nat) (l : List (BitVec 32)) (w : World) (hn : l.length = n) (hnc : n ≤ c) (hl : n ≤ 90000) (hr : Rw w a l) (hT : Tb w) :
    Calls Tryz.prog 53 #[.slice a n c] w fun e w' => e = .returned (sv (Lib.decDigits (valD l))) ∧ Below w.heap.size w w' := by
  subst hn
  have f1 := trim_len_le l
  obtain ⟨V, hV⟩ : ∃ V, valD l = V := ⟨_, rfl⟩
  have hVl : V < pw l.length := by rw [← hV]; exact valD_lt l
  rw [hV]
  by_cases h0 : V = 0
  · have ht : trimD l = [] := by rw [← canon_val, hV, h0, canon_zero]
    subst h0
    clear hV hVl
    go_enter Tryz.func53, Tryz.ntmps53
    go_wp2_with (go_at_call 83; (with_reducible refine (nnorm_any a _ c l _ rfl hnc (by omega) hr).mono ?_); rintro e w1 ⟨a1, c1, rfl, hown1, hb1⟩; rw [ht])
    go_ret
    exact ⟨by rw [dec_lt (by omega)]; rfl, hb1⟩
  have htl : 0 < (trimD l).length := by
    rw [← canon_val, hV]
    exact canon_len_pos (by omega)
  have hz : (((trimD l).length : Int) == 0) = false := by rw [beq_eq_false_iff_ne]; omega
  have hdl := big_dec l.length V hVl (by omega)
  have HV : Hid (trimD (trimD l) = trimD l ∧ valD (trimD l) = V) := ⟨by rw [← canon_val l, trim_canon], by rw [valD_trim, hV]⟩
  have HDL : Hid ((Lib.decDigits V).length ≤ 900000) := Nat.le_trans hdl (by omega)
  have HV0 := Lib.hid h0
  obtain ⟨i0, hi, hz0, hz1, hz2⟩ := info_parts infoStr
  clear hV hVl hdl h0
  go_enter Tryz.func53, Tryz.ntmps53
  go_wp2_with (go_at_call 83; (with_reducible refine (nnorm_any a _ c l _ rfl hnc (by omega) hr).mono ?_); rintro e w1 ⟨a1, c1, rfl, hown1, hb1⟩)
  obtain ⟨g, rfl, hg⟩ := own_form hown1 htl
  go_loopw [3, 4, 5] (fun r ch _ wr => FgR w V l.length r ch wr) (fun r _ _ wr => valD (rowOf wr r))
  case atStart => exact ⟨g, c1, trimD l, [], _, rfl, rfl, f1, ⟨HV.out.1, by rw [HV.out.2, if_neg HV0.out]; simp, fun z h => by cases h⟩, by simp, hown1, World.ownsRow_nil _ _ _ _, by simp [Value.ownBlock], hb1⟩
  case round =>
    clear hown1 hb1 hg
    obtain ⟨g1, c, Q, zs, chv, rfl, rfl, hQN, hq, hzl, hown, hch, hgh, hb⟩ := hrel
    have hrow : valD (rowOf wr (.slice (some ⟨g1, 0, none⟩) Q.length c)) = valD Q := by rw [rowOf_eq (Rw.of_own hown)]
    by_cases hQ0 : Q.length = 0
    · have hQ : Q = [] := List.length_eq_zero_iff.1 hQ0
      subst hQ
      obtain ⟨_, q2, q3⟩ := hq.out
      rw [valD_nil, if_pos rfl, List.nil_append] at q2
      have hzp : 0 < zs.length := by
        rcases Nat.eq_zero_or_pos zs.length with h | h
        · exfalso
          rw [List.length_eq_zero_iff.1 h] at q2
          have := dec_len_pos V
          rw [q2] at this
          simp at this
        · exact h
      obtain ⟨ha, hc, rfl⟩ := own_slice hch
      obtain ⟨h, rfl, hh⟩ := own_form hch hzp
      have hfl : zs.reverse.flatten.length ≤ 140737488355328 := by rw [← q2]; exact Nat.le_trans HDL.out (by omega)
      have HJ := fun W (ho : W.ownsRow w.heap.size 9 1 (.slice (some ⟨h, 0, none⟩) zs.length hc) zs.length (zs.reverse.map sv)) => join_str w.heap.size h hc zs.reverse W hfl (by rw [List.length_reverse]; exact hzl) (by rw [List.length_reverse]; exact hzp) (by rw [List.length_reverse]; exact ho)
      simp only [List.length_reverse, ← q2] at HJ
      have HJ' := Lib.hid HJ
      clear HJ q2 q3 hrow hfl
      go_wp2_with (first
        | (go_at_call 87; go_loud ((with_reducible refine (rev_str w.heap.size h hc zs _ hch).mono ?_); rintro e w2 ⟨rfl, hown2, hg2⟩; have hb2 : Below w.heap.size w w2 := hb.grown hg2 hb.size (fun q hq => by cases hq; exact (own_ge hch).1)))
        | (go_at_call 88; go_loud ((with_reducible refine (HJ'.out _ hown2).mono ?_); rintro e w3 ⟨rfl, hb3⟩)))
      go_ret
      exact ⟨rfl, hb2.trans (hb3.mono hb2.size)⟩
    · have hvp : 0 < valD Q := by
        have h := valD_len Q hq.out.1 (by omega)
        have := pw_pos (Q.length - 1)
        omega
      obtain ⟨v, hv⟩ : ∃ v, valD Q = v := ⟨_, rfl⟩
      obtain ⟨q, hqv⟩ : ∃ q, v / 1000000000 = q := ⟨_, rfl⟩
      obtain ⟨r, hrv⟩ : ∃ r, v % 1000000000 = r := ⟨_, rfl⟩
      have hrb : r < 1000000000 := by omega
      have HDB := dbd9 w.heap.size g1 Q.length c Q wr rfl (by omega) hown
      simp only [hv, hqv, hrv] at HDB
      obtain ⟨TB, hTB⟩ : ∃ TB : ByteArray, (⟨(Lib.decDigits r).toArray⟩ : ByteArray) = TB := ⟨_, rfl⟩
      obtain ⟨tl, htl2⟩ : ∃ tl, TB.size = tl := ⟨_, rfl⟩
      have htl3 : (Lib.decDigits r).length = tl := by rw [← htl2, ← hTB]; simp [ByteArray.size]
      have htl4 : tl ≤ 9 := by rw [← htl3]; exact dec_len_le 9 r hrb (by omega)
      obtain ⟨rc, hrc⟩ : ∃ rc, rc = 9 - tl := ⟨_, rfl⟩
      have hrci : (9 : Int) - (tl : Int) = (rc : Int) := by omega
      obtain ⟨RB, hRB⟩ : ∃ RB : ByteArray, (⟨(List.replicate rc (48 : UInt8)).toArray⟩ : ByteArray) = RB := ⟨_, rfl⟩
      obtain ⟨KB, hKB⟩ : ∃ KB : ByteArray, (⟨(kd 9 r).toArray⟩ : ByteArray) = KB := ⟨_, rfl⟩
      have hrs : RB.size = rc := by rw [← hRB]; simp [ByteArray.size]
      have hrl : ¬ 9223372036854775807 < rc + tl := by omega
      have hcat : RB ++ TB = KB := by
        rw [← hRB, ← hTB, cat_arr, ← hKB, kd_pad 9 r hrb (by omega), htl3, hrc]
      have HIT : ∀ W, Below w.heap.size w W → Calls Tryz.prog 84 #[.int .i64 r] W fun e w' => e = .returned (.string TB) ∧ Below W.heap.size W w' := by
        intro W hW
        have h := Tryz.strconv_Itoa (r : Int) (by omega) (by omega) W (hT.below hW)
        rw [itoa_nat, hTB] at h
        exact h.mono fun _ _ h => ⟨h.1, grow_below h.2⟩
      have HRP : ∀ W, Calls Tryz.prog 86 #[.string ⟨#[48]⟩, .int .i64 rc] W fun e w' => e = .returned (.string RB) ∧ Below W.heap.size W w' := by
        intro W
        have h := Tryz.strings_Repeat ⟨#[48]⟩ rc W (by omega) (by show 1 * rc ≤ _; omega)
        rw [show (⟨#[48]⟩ : ByteArray).data.toList = [48] from rfl, repeat48, hRB] at h
        exact h
      have hsz : zs.length ≤ 900000 := by
        have h1 := flat_len zs.reverse (fun z hz => hq.out.2.2 z (by simpa using hz))
        have h2 := HDL.out
        rw [hq.out.2.1, List.length_append] at h2
        rw [List.length_reverse] at h1
        omega
      have HV1 := Lib.hid (show valD Q = v ∧ v / 1000000000 = q ∧ v % 1000000000 = r from ⟨hv, hqv, hrv⟩)
      have HS1 := Lib.hid (show Value.string TB = sv (Lib.decDigits r) from by rw [← hTB]; rfl)
      have HS2 := Lib.hid (show Value.string KB = sv (kd 9 r) from by rw [← hKB]; rfl)
      have HDB' := Lib.hid HDB
      have HROW := Lib.hid hrow
      have HVP := Lib.hid hvp
      have hq1 : decide (0 < (Q.length : Int)) = true := by rw [decide_eq_true_iff]; omega
      clear HDB hv hqv hrv hTB htl3 hRB hKB hrc hrow hvp
      by_cases hq0 : q = 0
      · go_wp2_with (first
          | (go_at_call 85; go_loud ((with_reducible refine HDB'.out.mono ?_); rintro e w2 ⟨rfl, Q2, hQl, hQv, hown2, hg2⟩; have hb2 : Below w.heap.size w w2 := hb.grown hg2 hb.size (fun q hq => by cases hq; exact (own_ge hown).1); have hch2 := hch.kept hg2 (.inr hgh)))
          | (go_at_call 84; go_loud ((with_reducible refine (HIT w2 hb2).mono ?_); rintro e w3 ⟨rfl, hb23⟩; have hown3 := own_below hown2 hb23; have hch3 := own_below hch2 hb23; have hb3 := hb2.trans (hb23.mono hb2.size)))
          | (go_at_call 78; go_loud ((with_reducible refine (trim_any _ _ c Q2 _ hQl (own_cap hown3) (by omega) (Rw.of_own hown3)).mono ?_); rintro e w4 ⟨rfl, rfl⟩; have hQ4 : trimD Q2 = [] := (by rw [← canon_val, hQv, hq0, canon_zero]); rw [hQ4]))
          | (at_builtin; go_loud (refine wpList_append_rd _ rfl _ _ _ rfl w.heap.size 9 i0 (.string ⟨#[]⟩) 16 Tryz.underlying106 hi hz0 hz1 hz2 rfl chv zs.length (zs.map sv) rfl (hch3.alloc _) _ 1 1 [.string TB] rfl rfl (fun j u hu => ⟨_, rfl, cell_one_new _ _ _ j u hu⟩) (str_one _) (by unfold maxLen; omega) (by omega) (hb3.alloc hb3.size _).size ?_; intro v' w6 hown6 hg6 hv6)))
        have hwa := hb3.alloc hb3.size (.cells #[.string TB] 9)
        have hb6 : Below w.heap.size w w6 := hwa.grown hg6 hwa.size (fun k hk => (hch3.lt k hk).1)
        have hown7 := (hown3.alloc (.cells #[.string TB] 9)).kept hg6 (.inr (fun e => hgh e.symm))
        have hgl := (own_ge hown3).2
        have hne : v'.ownBlock ≠ some g1 := by
          rcases hv6 with h1 | h1
          · rw [h1]; exact hgh
          · rw [h1]
            intro e
            have e2 := Option.some.inj e
            simp at e2
            omega
        rw [HS1.out, show zs.map sv ++ [sv (Lib.decDigits r)] = (zs ++ [Lib.decDigits r]).map sv by simp] at hown6
        have hown8 := own_take hown7 (show 0 ≤ Q.length by omega)
        go_roundw
        case rel =>
          refine ⟨g1, c, [], zs ++ [Lib.decDigits r], v', rfl, rfl, by simp, ⟨rfl, ?_, ?_⟩, by simp; omega, by simpa [bv32] using hown8, by rw [List.length_append]; exact hown6, hne, hb6⟩
          · obtain ⟨k1, k2, k3⟩ := HV1.out
            rw [flat_snoc, hq.out.2.1, k1, if_neg (by have := HVP.out; omega), valD_nil, if_pos rfl, List.nil_append, show v = r by omega]
          · intro z hz
            rcases List.mem_append.1 hz with h | h
            · exact hq.out.2.2 z h
            · rw [List.mem_singleton.1 h]; exact dec_len_pos r
        case measure =>
          rw [HROW.out]
          exact HVP.out
      · go_wp2_with (first
          | (go_at_call 85; go_loud ((with_reducible refine HDB'.out.mono ?_); rintro e w2 ⟨rfl, Q2, hQl, hQv, hown2, hg2⟩; have hb2 : Below w.heap.size w w2 := hb.grown hg2 hb.size (fun q hq => by cases hq; exact (own_ge hown).1); have hch2 := hch.kept hg2 (.inr hgh)))
          | (go_at_call 84; go_loud ((with_reducible refine (HIT w2 hb2).mono ?_); rintro e w3 ⟨rfl, hb23⟩; have hown3 := own_below hown2 hb23; have hch3 := own_below hch2 hb23; have hb3 := hb2.trans (hb23.mono hb2.size)))
          | (go_at_call 78; go_loud ((with_reducible refine (trim_any _ _ c Q2 _ hQl (own_cap hown3) (by omega) (Rw.of_own hown3)).mono ?_); rintro e w4 ⟨rfl, rfl⟩; have hQ4 : valD (trimD Q2) = q := (by rw [valD_trim, hQv]); have hQ5 : trimD (trimD Q2) = trimD Q2 := (by rw [← canon_val Q2, trim_canon]); have hQ6 : 0 < (trimD Q2).length := (by rw [← canon_val, hQv]; exact canon_len_pos (by omega)); have hQ7 := trim_len_le Q2; have hQ8 := Lib.hid (trim_prefix Q2); generalize trimD Q2 = Q4 at *; have hq2 : decide (0 < (Q4.length : Int)) = true := (by rw [decide_eq_true_iff]; omega)))
          | (go_at_call 86; go_loud ((with_reducible refine (HRP _).mono ?_); rintro e w5 ⟨rfl, hb35⟩; have hown5 := own_below hown3 hb35; have hch5 := own_below hch3 hb35; have hb5 := hb3.trans (hb35.mono hb3.size)))
          | (at_builtin; go_loud (refine wpList_append_rd _ rfl _ _ _ rfl w.heap.size 9 i0 (.string ⟨#[]⟩) 16 Tryz.underlying106 hi hz0 hz1 hz2 rfl chv zs.length (zs.map sv) rfl (hch5.alloc _) _ 1 1 [.string KB] rfl rfl (fun j u hu => ⟨_, rfl, cell_one_new _ _ _ j u hu⟩) (str_one _) (by unfold maxLen; omega) (by omega) (hb5.alloc hb5.size _).size ?_; intro v' w6 hown6 hg6 hv6)))
        have hwa := hb5.alloc hb5.size (.cells #[.string KB] 9)
        have hb6 : Below w.heap.size w w6 := hwa.grown hg6 hwa.size (fun k hk => (hch5.lt k hk).1)
        have hown7 := (hown5.alloc (.cells #[.string KB] 9)).kept hg6 (.inr (fun e => hgh e.symm))
        have hgl := (own_ge hown5).2
        have hne : v'.ownBlock ≠ some g1 := by
          rcases hv6 with h1 | h1
          · rw [h1]; exact hgh
          · rw [h1]
            intro e
            have e2 := Option.some.inj e
            simp at e2
            omega
        rw [HS2.out, show zs.map sv ++ [sv (kd 9 r)] = (zs ++ [kd 9 r]).map sv by simp] at hown6
        have hown8 := own_take hown7 (show Q4.length ≤ Q.length by omega)
        rw [bv32_take, ← hQ8.out] at hown8
        go_roundw
        case rel =>
          refine ⟨g1, c, Q4, zs ++ [kd 9 r], v', rfl, rfl, by omega, ⟨hQ5, ?_, ?_⟩, by simp; omega, hown8, by rw [List.length_append]; exact hown6, hne, hb6⟩
          · obtain ⟨k1, k2, k3⟩ := HV1.out
            rw [flat_snoc, hq.out.2.1, k1, if_neg (by have := HVP.out; omega), hQ4, if_neg hq0, show v = q * 10 ^ 9 + r by omega, dec_kd 9 q r (by omega) hrb, List.append_assoc]
          · intro z hz
            rcases List.mem_append.1 hz with h | h
            · exact hq.out.2.2 z h
            · rw [List.mem_singleton.1 h, kd_pad 9 r hrb (by omega), List.length_append]
              have := dec_len_pos r
              omega
        case measure =>
          rw [HROW.out, rowOf_eq (Rw.of_own hown8), hQ4]
          obtain ⟨k1, k2, k3⟩ := HV1.out
          have := HVP.out
          omega
end Go.Proofs.YtdkbmpncohhioaaGreatDoor

/- PM -/
namespace Go.Proofs.YtdkbmpncohhioaaGreatDoor
open Go.RowKit
set_option linter.unusedVariables false
set_option linter.unusedSimpArgs false
def TnR (w : World) (l : List (BitVec 32)) (g cp : Nat) (r i : Value) (wr : World) : Prop := ∃ (p ρ : Nat) (Q : List (BitVec 32)), p ≤ l.length ∧ i = .int .i64 ((p : Int) - 1) ∧ r = .int .u64 ρ ∧ ρ < 10 ∧
  Hid (Q.length = l.length ∧ valD (l.drop p) = 10 * valD (Q.drop p) + ρ) ∧
  wr.ownsRow w.heap.size 42 1 (.slice (some ⟨g, 0, none⟩) l.length cp) l.length (bv32 Q) ∧ Below w.heap.size w wr
set_option maxRecDepth 50000 in
set_option maxHeartbeats 1000000 in
theorem tenth_any (a : Option Addr) (n c : Nat) (l : List (BitVec 32)) (w : World) (hn : l.length = n) (hl : n ≤ 1000000) (hr : Rw w a l) :
    Calls Tryz.prog 89 #[.slice a n c] w fun e w' => ∃ a1 c1, e = .returned (.tuple #[.slice a1 (canon (valD l / 10)).length c1, .int .u64 (valD l % 10 : Nat)]) ∧ RwF w.heap.size w' a1 (canon (valD l / 10)) ∧ Below w.heap.size w w' := by
  subst hn
  have hmk := run_make_row' (P := Tryz.prog) 29 42 (.int .u32 0) 4 Tryz.underlying29 info32 rfl .i64 .i64 l.length (by omega) (by omega)
  go_enter Tryz.func89, Tryz.ntmps89
  go_wp2
  go_loopw [5, 6, 7] (fun r i _ wr => TnR w l w.heap.size l.length r i wr) (fun _ i _ _ => (intOf i + 1).toNat)
  case atStart => exact ⟨l.length, 0, zer l.length, Nat.le_refl _, by go_num, rfl, by omega, ⟨by simp [zer], by simp [zer, valD_nil]⟩, made32 w _ (by omega), Below.alloc (Below.refl _ _) (Nat.le_refl _) _⟩
  case round =>
    obtain ⟨p, ρ, Q, hp, rfl, rfl, hρ, hq, hown, hb⟩ := hrel
    rcases Nat.eq_zero_or_pos p with rfl | hp0
    · have hres : Hid (valD l % 10 = ρ ∧ valD Q = valD l / 10) := by
        have h := hq.out.2
        rw [List.drop_zero, List.drop_zero] at h
        exact ⟨by omega, by omega⟩
      have HL := Lib.hid hq.out.1
      have hF := Rw.of_own hown
      have HT : Hid (trimD Q = canon (valD l / 10)) := by show _ = _; rw [← canon_val, hres.out.2]
      go_wp2_with (go_at_call 82; go_loud ((with_reducible refine (norm_any _ _ _ Q _ HL.out (by have := HL.out; omega) hF).mono ?_); rintro e w2 ⟨a2, c2, rfl, hown2, hb2⟩; rw [HT.out] at hown2; rw [HT.out]))
      go_ret2
      exact ⟨a2, c2, by rw [hres.out.1]; rfl, (RwF.of_own hown2).mono hb.size, hb.trans (hb2.mono hb.size)⟩
    · obtain ⟨j, rfl⟩ : ∃ j, p = j + 1 := ⟨p - 1, by omega⟩
      have hj : j < Q.length := by rw [hq.out.1]; omega
      have hjl : j < l.length := by omega
      obtain ⟨ad, rfl, hc0⟩ := hr.below hb j hjl
      obtain ⟨x, hx⟩ : ∃ x, l[j].toNat = x := ⟨_, rfl⟩
      have e1 := l[j].isLt
      rw [hx] at hc0 e1
      have hcq := own_cell hown j (.int .u32 (Q[j].toNat : Int)) (by simp [bv32, hj])
      have hf := hown.frozenAt j
      obtain ⟨t, ht⟩ : ∃ t, ρ * 4294967296 + x = t := ⟨_, rfl⟩
      have hti : (ρ : Int) * 4294967296 + (x : Int) = (t : Int) := by omega
      have htb : t < 42949672960 := by omega
      obtain ⟨q, hqq⟩ : ∃ q, t / 10 = q := ⟨_, rfl⟩
      obtain ⟨r, hrr⟩ : ∃ r, t % 10 = r := ⟨_, rfl⟩
      have hqi : (t : Int) / 10 = (q : Int) := by omega
      have hri : (t : Int) % 10 = (r : Int) := by omega
      have hqt : (t : Int).tdiv 10 = (q : Int) := by rw [Int.tdiv_eq_ediv_of_nonneg (by omega)]; omega
      have hrt : (t : Int).tmod 10 = (r : Int) := by rw [Int.tmod_eq_emod_of_nonneg (by omega)]; omega
      have hqb : q < 4294967296 := by omega
      have HX := Lib.hid (show digD l j = x from by rw [digD_in _ _ hjl, hx])
      have HT := Lib.hid ht
      have HQQ := Lib.hid hqq
      have HRR := Lib.hid hrr
      have HJ := Lib.hid hj
      clear ht hqq hrr hx
      go_wp2
      go_roundw
      case rel =>
        refine ⟨j, r, Q.set j (BitVec.ofNat 32 q), by omega, by go_num, by go_num, by have := HRR.out; omega, ⟨?_, ?_⟩, ?_, ?_⟩
        · rw [List.length_set]; exact hq.out.1
        · have h1 : valD (l.drop j) = x + 4294967296 * valD (l.drop (j + 1)) := by rw [drop_dig, HX.out]
          have h2 : valD ((Q.set j (BitVec.ofNat 32 q)).drop j) = q + 4294967296 * valD (Q.drop (j + 1)) := by
            rw [drop_dig, digD_in _ _ (by rw [List.length_set]; exact HJ.out), List.getElem_set_self, List.drop_set_of_lt (by omega), BitVec.toNat_ofNat, Nat.mod_eq_of_lt hqb]
          rw [h1, h2]
          exact dbd_num _ _ _ _ _ _ _ _ HT.out HQQ.out HRR.out hq.out.2
        · have := own_set hown j (.int .u32 (q : Int))
          rw [bv32_set]
          rw [show ((BitVec.ofNat 32 q).toNat : Int) = (q : Int) by rw [toNat32]; omega]
          exact this
        · exact Below.setCell hb (p := ⟨w.heap.size, j, none⟩) (Nat.le_refl _) _
      case measure => simp [intOf] <;> omega
/-- The bytes of a text as values. -/
def bvu (l : List UInt8) : List Value := l.map fun c => .int .u8 (c.toNat : Int)
theorem bvu_len (l : List UInt8) : (bvu l).length = l.length := by simp [bvu]
theorem bvu_snoc (l : List UInt8) (c : UInt8) : bvu (l ++ [c]) = bvu l ++ [.int .u8 (c.toNat : Int)] := by simp [bvu]
theorem u8_one (x : Int) : ∀ u ∈ [Value.int .u8 x], u.oneCell' = true := by
  intro u hu
  simp at hu
  subst hu
  rfl
theorem infoU : (Tryz.prog.info? 5).map (fun i => (i.zero, i.size, i.bytes)) = some (some (.int .u8 0), 1, 1) := by kernel_rfl
theorem fresh_rowU (W : World) : (W.alloc (.cells #[] 5)).ownsRow W.heap.size 5 1 (.slice (some ⟨W.heap.size, 0, none⟩) 0 0) 0 [] := World.ownsRow_made W #[] 0 (Nat.le_refl _) (by unfold maxLen; omega) (by simp)
set_option maxRecDepth 50000 in
theorem str_of_row {W : World} {B g n c : Nat} {l : List UInt8} (h : W.ownsRow B 5 1 (.slice (some ⟨g, 0, none⟩) n c) n (bvu l)) : (convert 44 9 (.slice (some ⟨g, 0, none⟩) n c)).run Tryz.prog W = .ok (sv l) W := by
  have hl := h.1
  rw [bvu_len] at hl
  have hr := run_convert_bytes_arg (P := Tryz.prog) W 44 5 Tryz.underlying44 Tryz.underlying5 g 0 n c (l.map fun c => (c.toNat : Int)) (by rw [List.length_map]; omega) (fun i hi => by
    rw [Nat.zero_add]
    refine own_cell h i _ ?_
    rw [bvu, List.getElem?_map, List.getElem?_eq_getElem (by omega)]
    simp [List.getD, show i < l.length by omega]) 9 Tryz.underlying9
  rw [hr]
  unfold sv
  congr 2
  unfold strOfNums
  congr 2
  rw [List.map_map]
  conv => rhs; rw [← List.map_id l]
  apply List.map_congr_left
  intro x _
  simp
end Go.Proofs.YtdkbmpncohhioaaGreatDoor

/- PN -/
namespace Go.Proofs.YtdkbmpncohhioaaGreatDoor
open Go.RowKit
set_option linter.unusedVariables false
set_option linter.unusedSimpArgs false
def RfR (w : World) (V N : Nat) (r ch : Value) (wr : World) : Prop := ∃ (a : Option Addr) (c : Nat) (X : List (BitVec 32)) (bs : List UInt8) (chv : Value), r = .slice a X.length c ∧ chv = ch ∧ X.length ≤ N ∧
  Hid (trimD X = X ∧ Lib.decDigits V = (if valD X = 0 then [] else Lib.decDigits (valD X)) ++ bs.reverse) ∧ bs.length ≤ 1000000 ∧ Rw wr a X ∧ wr.ownsRow w.heap.size 5 1 chv bs.length (bvu bs) ∧ Below w.heap.size w wr
def RoR (w : World) (bs : List UInt8) (h hc : Nat) (out i : Value) (wr : World) : Prop := ∃ (p m : Nat) (os : List UInt8) (outv : Value), i = .int .i64 ((p : Int) - 1) ∧ outv = out ∧ p ≤ bs.length ∧ m + p = bs.length ∧ Hid (os = (bs.drop p).reverse) ∧
  wr.ownsRow w.heap.size 5 1 outv m (bvu os) ∧ wr.ownsRow w.heap.size 5 1 (.slice (some ⟨h, 0, none⟩) bs.length hc) bs.length (bvu bs) ∧ outv.ownBlock ≠ some h ∧ Below w.heap.size w wr
theorem drop_rev (bs : List UInt8) (j : Nat) (h : j < bs.length) : (bs.drop j).reverse = (bs.drop (j + 1)).reverse ++ [bs[j]] := by
  rw [List.drop_eq_getElem_cons h, List.reverse_cons]
set_option maxRecDepth 50000 in
set_option maxHeartbeats 2000000 in
theorem rformat_any (a : Option Addr) (n c : Nat) (l : List (BitVec 32)) (w : World) (hn : l.length = n) (hl : n ≤ 90000) (hr : Rw w a l) :
    Calls Tryz.prog 55 #[.slice a n c] w fun e w' => e = .returned (sv (Lib.decDigits (valD l))) ∧ Below w.heap.size w w' := by
  subst hn
  have f1 := trim_len_le l
  obtain ⟨V, hV⟩ : ∃ V, valD l = V := ⟨_, rfl⟩
  have hVl : V < pw l.length := by rw [← hV]; exact valD_lt l
  rw [hV]
  by_cases h0 : V = 0
  · have ht : trimD l = [] := by rw [← canon_val, hV, h0, canon_zero]
    subst h0
    clear hV hVl
    go_enter Tryz.func55, Tryz.ntmps55
    go_wp2_with (go_at_call 82; (with_reducible refine (norm_any a _ c l _ rfl (by omega) hr).mono ?_); rintro e w1 ⟨a1, c1, rfl, hown1, hb1⟩; rw [ht])
    go_ret
    exact ⟨by rw [dec_lt (by omega)]; rfl, hb1⟩
  have htl : 0 < (trimD l).length := by
    rw [← canon_val, hV]
    exact canon_len_pos (by omega)
  have hz : (((trimD l).length : Int) == 0) = false := by rw [beq_eq_false_iff_ne]; omega
  have hdl := big_dec l.length V hVl (by omega)
  have HV : Hid (trimD (trimD l) = trimD l ∧ valD (trimD l) = V) := ⟨by rw [← canon_val l, trim_canon], by rw [valD_trim, hV]⟩
  have HDL : Hid ((Lib.decDigits V).length ≤ 900000) := Nat.le_trans hdl (by omega)
  have HV0 := Lib.hid h0
  obtain ⟨i0, hi, hz0, hz1, hz2⟩ := info_parts infoU
  clear hV hVl hdl h0
  go_enter Tryz.func55, Tryz.ntmps55
  go_wp2_with (go_at_call 82; (with_reducible refine (norm_any a _ c l _ rfl (by omega) hr).mono ?_); rintro e w1 ⟨a1, c1, rfl, hown1, hb1⟩)
  have hfu := own_mono (fresh_rowU w1) (base' := w.heap.size) hb1.size
  have hbA := hb1.alloc hb1.size (.cells #[] 5)
  go_loopw [3, 4, 5, 6] (fun r ch _ _ wr => RfR w V l.length r ch wr) (fun r _ _ _ wr => valD (rowOf wr r))
  case atStart => exact ⟨a1, c1, trimD l, [], _, rfl, rfl, f1, ⟨HV.out.1, by rw [HV.out.2, if_neg HV0.out]; simp⟩, by simp, (Rw.of_own hown1).below (Below.alloc (Below.refl _ _) (Nat.le_refl _) _), hfu, hbA⟩
  case round =>
    clear hown1 hb1 hfu hbA
    obtain ⟨ax, c, X, bs, chv, rfl, rfl, hXN, hq, hbl, hrx, hch, hb⟩ := hrel
    have hrow : valD (rowOf wr (.slice ax X.length c)) = valD X := by rw [rowOf_eq hrx]
    by_cases hX0 : X.length = 0
    · have hX : X = [] := List.length_eq_zero_iff.1 hX0
      subst hX
      obtain ⟨_, q2⟩ := hq.out
      rw [valD_nil, if_pos rfl, List.nil_append] at q2
      have hbp : 0 < bs.length := by
        rcases Nat.eq_zero_or_pos bs.length with h | h
        · exfalso
          rw [List.length_eq_zero_iff.1 h] at q2
          have := dec_len_pos V
          rw [q2] at this
          simp at this
        · exact h
      obtain ⟨ha, hc, rfl⟩ := own_slice hch
      obtain ⟨h, rfl, hh⟩ := own_form hch hbp
      have hhl := (own_ge hch).2
      have HQ2 := Lib.hid q2
      have hfu := own_mono (fresh_rowU wr) (base' := w.heap.size) hb.size
      have hbA := hb.alloc hb.size (.cells #[] 5)
      have hchA := hch.alloc (.cells #[] 5)
      have hneA : (Value.slice (some ⟨wr.heap.size, 0, none⟩) 0 0).ownBlock ≠ some h := by
        intro e
        have h2 : wr.heap.size = h := Option.some.inj e
        omega
      clear q2 hrow
      simp only [List.length_nil]
      go_wp2
      go_loopw [7, 8] (fun out i wr => RoR w bs h hc out i wr) (fun _ i _ => (intOf i + 1).toNat)
      case atStart => exact ⟨bs.length, 0, [], _, by go_num, rfl, Nat.le_refl _, by omega, (by show _ = _; simp), hfu, hchA, hneA, hbA⟩
      case round =>
        clear hfu hbA hchA hneA
        obtain ⟨p, m, os, outv, rfl, rfl, hp, hmp, hos, ho, hbk, hne, hb2⟩ := hrel
        rcases Nat.eq_zero_or_pos p with rfl | hp0
        · have hos2 := hos.out
          rw [List.drop_zero] at hos2
          obtain rfl : m = bs.length := by omega
          obtain ⟨oa, oc, rfl⟩ := own_slice ho
          obtain ⟨g, rfl, hgg⟩ := own_form ho hbp
          have hconv := str_of_row ho
          have HS : Hid (os = Lib.decDigits V) := by show _ = _; rw [hos2, HQ2.out]
          clear hos2
          go_wp2
          go_ret
          exact ⟨by rw [← HS.out]; rfl, hb2⟩
        · obtain ⟨j, rfl⟩ : ∃ j, p = j + 1 := ⟨p - 1, by omega⟩
          have hj : j < bs.length := by omega
          obtain ⟨x, hx⟩ : ∃ x, bs[j].toNat = x := ⟨_, rfl⟩
          have hck := own_cell hbk j (.int .u8 (x : Int)) (by rw [bvu, List.getElem?_map, List.getElem?_eq_getElem hj, ← hx]; rfl)
          have hxl : x < 256 := by rw [← hx]; exact bs[j].toNat_lt
          have HX : Hid (os ++ [bs[j]] = (bs.drop j).reverse ∧ (bs[j].toNat : Int) = (x : Int)) := ⟨by rw [hos.out, drop_rev bs j hj], by rw [hx]⟩
          have hml : m ≤ 1000000 := by omega
          clear hx
          go_wp2_with (at_builtin; go_loud (refine wpList_append_rd _ rfl _ _ _ rfl w.heap.size 5 i0 (.int .u8 0) 1 Tryz.underlying44 hi hz0 hz1 hz2 rfl outv m (bvu os) rfl (ho.alloc _) _ 1 1 [.int .u8 (x : Int)] rfl rfl (fun j u hu => ⟨_, rfl, cell_one_new _ _ _ j u hu⟩) (u8_one _) (by unfold maxLen; omega) (by omega) (hb2.alloc hb2.size _).size ?_; intro v' w6 hown6 hg6 hv6))
          have hwa := hb2.alloc hb2.size (.cells #[.int .u8 (x : Int)] 5)
          have hb6 : Below w.heap.size w w6 := hwa.grown hg6 hwa.size (fun k hk => (ho.lt k hk).1)
          have hbk7 := (hbk.alloc (.cells #[.int .u8 (x : Int)] 5)).kept hg6 (.inr (fun e => hne e.symm))
          have hgl := (own_ge hbk).2
          have hne6 : v'.ownBlock ≠ some h := by
            rcases hv6 with h1 | h1
            · rw [h1]; exact hne
            · rw [h1]
              intro e
              have e2 := Option.some.inj e
              simp at e2
              omega
          rw [← HX.out.2, ← bvu_snoc] at hown6
          go_roundw
          case rel => exact ⟨j, m + 1, os ++ [bs[j]], v', by go_num, rfl, by omega, by omega, HX.out.1, hown6, hbk7, hne6, hb6⟩
          case measure => simp [intOf] <;> omega
    · have hvp : 0 < valD X := by
        have h := valD_len X hq.out.1 (by omega)
        have := pw_pos (X.length - 1)
        omega
      obtain ⟨v, hv⟩ : ∃ v, valD X = v := ⟨_, rfl⟩
      obtain ⟨r, hrv⟩ : ∃ r, v % 10 = r := ⟨_, rfl⟩
      obtain ⟨Y, E1⟩ := ex_canon (v / 10)
      have HTN := tenth_any ax _ c X wr rfl (by omega) hrx
      simp only [hv, hrv, E1.out] at HTN
      have HTN' := Lib.hid HTN
      have hrb : r < 10 := by omega
      have hYl : Y.length ≤ X.length := by
        rw [← E1.out, canon_len_le, ← hv]
        exact Nat.lt_of_le_of_lt (Nat.div_le_self _ _) (valD_lt X)
      have hsz : bs.length ≤ 900000 := by
        have h2 := HDL.out
        rw [hq.out.2, List.length_append, List.length_reverse] at h2
        omega
      have HV1 := Lib.hid (show valD X = v ∧ v % 10 = r ∧ valD Y = v / 10 ∧ trimD Y = Y from ⟨hv, hrv, by rw [← E1.out, valD_canon], by rw [← E1.out, trim_canon]⟩)
      have HROW := Lib.hid hrow
      have HVP := Lib.hid hvp
      have hq1 : decide (0 < (X.length : Int)) = true := by rw [decide_eq_true_iff]; omega
      clear HTN hv hrv hrow hvp
      go_wp2_with (first
        | (go_at_call 89; go_loud ((with_reducible refine HTN'.out.mono ?_); rintro e w2 ⟨a2, c2, rfl, hry, hb12⟩; have hb2 := hb.trans (hb12.mono hb.size); have hch2 := own_below hch hb12))
        | (at_builtin; go_loud (refine wpList_append_rd _ rfl _ _ _ rfl w.heap.size 5 i0 (.int .u8 0) 1 Tryz.underlying44 hi hz0 hz1 hz2 rfl chv bs.length (bvu bs) rfl (hch2.alloc _) _ 1 1 [.int .u8 (48 + (r : Int))] rfl rfl (fun j u hu => ⟨_, rfl, cell_one_new _ _ _ j u hu⟩) (u8_one _) (by unfold maxLen; omega) (by omega) (hb2.alloc hb2.size _).size ?_; intro v' w6 hown6 hg6 hv6)))
      have hwa := hb2.alloc hb2.size (.cells #[.int .u8 (48 + (r : Int))] 5)
      have hb6 : Below w.heap.size w w6 := hwa.grown hg6 hwa.size (fun k hk => (hch2.lt k hk).1)
      have hry6 : Rw w6 a2 Y := by
        rcases Nat.eq_zero_or_pos Y.length with h | h
        · rw [List.length_eq_zero_iff.1 h]; exact Rw.nil _ _
        · refine (hry.1.below (Below.alloc (Below.refl _ _) (Nat.le_refl _) _)).grown hg6 ?_
          intro ad e h2
          have h3 := hry.2 ad e (by intro h4; rw [h4] at h; simp at h)
          have h4 := (hch.lt _ h2.symm).2
          omega
      have hcn : ((UInt8.ofNat (48 + r)).toNat : Int) = 48 + (r : Int) := by rw [toNat_dig hrb]; omega
      rw [← hcn, ← bvu_snoc] at hown6
      go_roundw
      case rel =>
        refine ⟨a2, c2, Y, bs ++ [UInt8.ofNat (48 + r)], v', rfl, rfl, by omega, ⟨HV1.out.2.2.2, ?_⟩, by simp; omega, ?_, by rw [List.length_append]; exact hown6, hb6⟩
        · obtain ⟨k1, k2, k3, k4⟩ := HV1.out
          rw [hq.out.2, k1, k3, List.reverse_append, List.reverse_singleton, ← List.append_assoc, if_neg (by have := HVP.out; omega)]
          congr 1
          rcases Nat.lt_or_ge v 10 with h | h
          · rw [if_pos (by omega), dec_lt h, show r = v by omega]; rfl
          · rw [if_neg (by omega), dec_ge (by omega), k2]
        · exact hry6
      case measure =>
        obtain ⟨k1, k2, k3, k4⟩ := HV1.out
        rw [HROW.out, rowOf_eq hry6, k3]
        have := HVP.out
        omega
end Go.Proofs.YtdkbmpncohhioaaGreatDoor

/- PO -/
namespace Go.Proofs.YtdkbmpncohhioaaGreatDoor
open Go.RowKit
set_option linter.unusedVariables false
set_option linter.unusedSimpArgs false
theorem str_nil {S : ByteArray} (h : S.data.toList = []) : S = ⟨#[]⟩ := by
  apply ByteArray.ext
  rw [← Array.toArray_toList (xs := S.data), h]
theorem str_get {S : ByteArray} {l : List UInt8} (h : S.data.toList = l) (i : Nat) (hi : i < S.size) (hi2 : i < l.length) : S[i] = l[i] := by
  subst h
  rfl
theorem str_size {S : ByteArray} {l : List UInt8} (h : S.data.toList = l) : S.size = l.length := by
  subst h
  rfl
theorem digs_take {l : List UInt8} {p : Nat} (h : p < l.length) (h1 : digs (l.take p) = true) (h2 : 48 ≤ l[p].toNat) (h3 : l[p].toNat ≤ 57) : digs (l.take (p + 1)) = true := by
  rw [List.take_succ_eq_append_getElem h, digs_append, h1]
  simp [digs, h2, h3]
theorem digs_bad {l : List UInt8} {p : Nat} (h : p < l.length) (h2 : l[p].toNat < 48 ∨ 57 < l[p].toNat) : isDec l = false := by
  rw [Bool.eq_false_iff]
  intro e
  unfold isDec at e
  rw [Bool.and_eq_true] at e
  have := digs_mem e.2 l[p] (List.getElem_mem h)
  omega
theorem isDec_lead {l : List UInt8} (h1 : 1 < l.length) (h : l[0].toNat = 48) : isDec l = false := by
  rw [Bool.eq_false_iff]
  intro e
  rcases l with _ | ⟨c, l⟩
  · simp at h1
  · have hc : c = 48 := UInt8.toNat_inj.1 h
    subst hc
    have h2 : l ≠ [] := by intro h3; subst h3; simp at h1
    simp [isDec, h2] at e
theorem isDec_ok {l : List UInt8} (h0 : 0 < l.length) (h : l.length ≤ 1 ∨ l[0].toNat ≠ 48) (hd : digs l = true) : isDec l = true := by
  rcases l with _ | ⟨c, l⟩
  · simp at h0
  · have hne : ¬ (1 < (c :: l).length ∧ (c :: l).head? = some 48) := by
      rintro ⟨h1, h2⟩
      rcases h with h | h
      · omega
      · apply h
        simp at h2
        rw [h2]
        rfl
    unfold isDec
    rw [hd, Bool.and_true]
    have e1 : (decide (1 < (c :: l).length) && decide ((c :: l).head? = some 48)) = false := by
      rw [Bool.and_eq_false_iff, decide_eq_false_iff_not, decide_eq_false_iff_not]
      rcases Nat.lt_or_ge 1 (c :: l).length with h1 | h1
      · exact .inr fun h2 => hne ⟨h1, h2⟩
      · exact .inl (by omega)
    rw [e1]
    simp
set_option maxRecDepth 50000 in
set_option maxHeartbeats 1000000 in
theorem isdec_any (S : ByteArray) (l : List UInt8) (w : World) (hS : S.data.toList = l) (hl : l.length ≤ 1000000) :
    Calls Tryz.prog 76 #[.string S] w fun e w' => e = .returned (.bool (isDec l)) ∧ w = w' := by
  have hsz := str_size hS
  rcases Nat.eq_zero_or_pos l.length with h0 | h0
  · have hl0 := List.length_eq_zero_iff.1 h0
    subst hl0
    have := str_nil hS
    subst this
    clear hS hsz h0
    go_enter Tryz.func76, Tryz.ntmps76
    go_wp2
    go_ret
    exact ⟨rfl, rfl⟩
  have hne2 : ¬ S.toList = [] := by
    rw [ByteArray.toList_eq, hS]
    intro e
    rw [e] at h0
    simp at h0
  have hne : S.toList.isEmpty = false := by
    cases hq : S.toList with
    | nil => exact absurd hq hne2
    | cons _ _ => rfl
  have g0 := str_get hS 0 (by omega) h0
  obtain ⟨x0, hx0⟩ : ∃ x, l[0].toNat = x := ⟨_, rfl⟩
  have hg0 : (S[0]'(by omega)).toNat = x0 := by rw [g0, hx0]
  have HX0 := Lib.hid hx0
  have HS := Lib.hid hS
  obtain ⟨n, hn⟩ : ∃ n, l.length = n := ⟨_, rfl⟩
  rw [hn] at hsz hl h0
  have HN := Lib.hid hn
  by_cases hb : 1 < n ∧ x0 = 48
  · obtain ⟨b1, b2⟩ := hb
    have hres : Hid (isDec l = false) := isDec_lead (by rw [hn]; exact b1) (by rw [hx0]; exact b2)
    have b3 : decide ((1 : Int) < (n : Int)) = true := by rw [decide_eq_true_iff]; omega
    have b4 : ((x0 : Int) == 48) = true := by rw [b2]; rfl
    rw [hres.out]
    clear hn hx0 g0
    go_enter Tryz.func76, Tryz.ntmps76
    go_wp2
    go_ret
    exact ⟨rfl, rfl⟩
  have hlead : Hid (l.length ≤ 1 ∨ x0 ≠ 48) := by show _ ∨ _; rw [hn]; omega
  have rest : ∀ (K : Prop), K → K := fun _ h => h
  have main : (n ≤ 1 ∨ 1 < n ∧ x0 ≠ 48) := by omega
  clear hn hx0 g0 rest
  have LOOP : True := trivial
  rcases main with hm | ⟨hm, hx48⟩
  · have b3 : decide ((1 : Int) < (n : Int)) = false := by rw [decide_eq_false_iff_not]; omega
    go_enter Tryz.func76, Tryz.ntmps76
    go_wp2
    go_loopw [3, 18] (fun _ i wr => w = wr ∧ ∃ p : Nat, p ≤ n ∧ i = .int .i64 p ∧ Hid (digs (l.take p) = true)) (fun _ i _ => n - (intOf i).toNat)
    case atStart => exact ⟨rfl, 0, Nat.zero_le _, rfl, rfl⟩
    case round =>
      obtain ⟨rfl, p, hp, rfl, hd⟩ := hrel
      by_cases hlt : p < n
      · have hpl : p < l.length := by have := HN.out; omega
        have gp := str_get HS.out p (by omega) hpl
        obtain ⟨x, hx⟩ : ∃ x, l[p].toNat = x := ⟨_, rfl⟩
        have hps : p < S.size := by omega
        have hgp : (S[p]'hps).toNat = x := by rw [gp, hx]
        have hxb : x < 256 := by rw [← hx]; exact l[p].toNat_lt
        have HX := Lib.hid hx
        clear gp hx
        by_cases h1 : x < 48
        · have h1d : decide ((x : Int) < 48) = true := by rw [decide_eq_true_iff]; omega
          have hres : Hid (isDec l = false) := digs_bad hpl (by rw [HX.out]; exact .inl h1)
          go_wp2
          go_ret
          exact ⟨by rw [hres.out]; rfl, rfl⟩
        have h1d : decide ((x : Int) < 48) = false := by rw [decide_eq_false_iff_not]; omega
        by_cases h2 : 57 < x
        · have h2d : decide ((57 : Int) < (x : Int)) = true := by rw [decide_eq_true_iff]; omega
          have hres : Hid (isDec l = false) := digs_bad hpl (by rw [HX.out]; exact .inr h2)
          go_wp2
          go_ret
          exact ⟨by rw [hres.out]; rfl, rfl⟩
        have h2d : decide ((57 : Int) < (x : Int)) = false := by rw [decide_eq_false_iff_not]; omega
        go_wp2
        go_roundw
        case rel => exact ⟨trivial, p + 1, by omega, by go_num, digs_take hpl hd.out (by rw [HX.out]; omega) (by rw [HX.out]; omega)⟩
        case measure => simp [intOf] <;> omega
      · obtain rfl : p = n := by omega
        have hres : Hid (isDec l = true) := isDec_ok (by rw [HN.out]; exact h0) (by rw [HX0.out]; exact hlead.out) (by have := hd.out; rwa [← HN.out, List.take_length] at this)
        go_wp2
        go_ret
        exact ⟨by rw [hres.out]; rfl, rfl⟩
  · have b3 : decide ((1 : Int) < (n : Int)) = true := by rw [decide_eq_true_iff]; omega
    have b4 : ((x0 : Int) == 48) = false := by rw [beq_eq_false_iff_ne]; omega
    go_enter Tryz.func76, Tryz.ntmps76
    go_wp2
    go_loopw [3, 18] (fun _ i wr => w = wr ∧ ∃ p : Nat, p ≤ n ∧ i = .int .i64 p ∧ Hid (digs (l.take p) = true)) (fun _ i _ => n - (intOf i).toNat)
    case atStart => exact ⟨rfl, 0, Nat.zero_le _, rfl, rfl⟩
    case round =>
      obtain ⟨rfl, p, hp, rfl, hd⟩ := hrel
      by_cases hlt : p < n
      · have hpl : p < l.length := by have := HN.out; omega
        have gp := str_get HS.out p (by omega) hpl
        obtain ⟨x, hx⟩ : ∃ x, l[p].toNat = x := ⟨_, rfl⟩
        have hps : p < S.size := by omega
        have hgp : (S[p]'hps).toNat = x := by rw [gp, hx]
        have hxb : x < 256 := by rw [← hx]; exact l[p].toNat_lt
        have HX := Lib.hid hx
        clear gp hx
        by_cases h1 : x < 48
        · have h1d : decide ((x : Int) < 48) = true := by rw [decide_eq_true_iff]; omega
          have hres : Hid (isDec l = false) := digs_bad hpl (by rw [HX.out]; exact .inl h1)
          go_wp2
          go_ret
          exact ⟨by rw [hres.out]; rfl, rfl⟩
        have h1d : decide ((x : Int) < 48) = false := by rw [decide_eq_false_iff_not]; omega
        by_cases h2 : 57 < x
        · have h2d : decide ((57 : Int) < (x : Int)) = true := by rw [decide_eq_true_iff]; omega
          have hres : Hid (isDec l = false) := digs_bad hpl (by rw [HX.out]; exact .inr h2)
          go_wp2
          go_ret
          exact ⟨by rw [hres.out]; rfl, rfl⟩
        have h2d : decide ((57 : Int) < (x : Int)) = false := by rw [decide_eq_false_iff_not]; omega
        go_wp2
        go_roundw
        case rel => exact ⟨trivial, p + 1, by omega, by go_num, digs_take hpl hd.out (by rw [HX.out]; omega) (by rw [HX.out]; omega)⟩
        case measure => simp [intOf] <;> omega
      · obtain rfl : p = n := by omega
        have hres : Hid (isDec l = true) := isDec_ok (by rw [HN.out]; exact h0) (by rw [HX0.out]; exact hlead.out) (by have := hd.out; rwa [← HN.out, List.take_length] at this)
        go_wp2
        go_ret
        exact ⟨by rw [hres.out]; rfl, rfl⟩
end Go.Proofs.YtdkbmpncohhioaaGreatDoor

