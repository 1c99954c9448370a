import Init
import Derived.Test.YtfbgfnebodabpaaRectNum
namespace Go.Proofs.Ytfbgfnebodabpaa
set_option linter.unusedVariables false
set_option linter.unusedSimpArgs false
/- plain facts on masks: bounds a b c d, values in a list, row by row -/
def arR (a b c d : Int) : Int := (cn (eR a b c d) c - cn (eR a b c d) a) * (cn (eR a b c d) d - cn (eR a b c d) b)
def caR (a b c d : Int) : Bool := !eR a b c d || (decide (a = 0) && decide (b = 0) && decide (c = 0) && decide (d = 0))
def vM (a b c d : Int) (n : Nat) : Bool := caR a b c d && decide (arR a b c d ≤ 65536) && decide ((n : Int) = arR a b c d)
def BB (l : List Int) : Prop := ∀ x ∈ l, 0 ≤ x ∧ x ≤ 255
def mAt (a b c d : Int) (l : List Int) (x y : Int) : Int := if ctB a b c d x y = true then l.getD ((y - b) * (c - a) + x - a).toNat 0 else 0
theorem arR_bd (a b c d : Int) : 0 ≤ arR a b c d ∧ arR a b c d ≤ 67108864 := by
  unfold arR
  cases he : eR a b c d with
  | true => simp [cn]
  | false =>
    have h := (eR_false a b c d).1 he
    simp only [cn_false]
    have h9 : (c - a) * (d - b) ≤ 8192 * 8192 := Int.mul_le_mul (by omega) (by omega) (by omega) (by omega)
    exact ⟨Int.mul_nonneg (by omega) (by omega), by omega⟩
theorem ct_bd {a b c d x y : Int} (h : ctB a b c d x y = true) : (-4096 ≤ a ∧ a ≤ 4096) ∧ (-4096 ≤ b ∧ b ≤ 4096) ∧ (-4096 ≤ c ∧ c ≤ 4096) ∧ (-4096 ≤ d ∧ d ≤ 4096) ∧ a ≤ x ∧ x < c ∧ b ≤ y ∧ y < d ∧ eR a b c d = false := by
  simp only [ctB, Bool.and_eq_true, Bool.not_eq_true', decide_eq_true_eq] at h
  obtain ⟨⟨⟨⟨he, h1⟩, h2⟩, h3⟩, h4⟩ := h
  have := (eR_false a b c d).1 he
  exact ⟨this.1, this.2.1, this.2.2.1, this.2.2.2.1, h1, h2, h3, h4, he⟩
/-- The place of a pixel lies in the list. -/
theorem ix_bd {a b c d x y : Int} {n : Nat} (h : ctB a b c d x y = true) (hv : vM a b c d n = true) : 0 ≤ (y - b) * (c - a) + x - a ∧ (y - b) * (c - a) + x - a < (n : Int) := by
  obtain ⟨_, _, _, _, h1, h2, h3, h4, he⟩ := ct_bd h
  simp only [vM, Bool.and_eq_true, decide_eq_true_eq] at hv
  have hn := hv.2
  simp only [arR, he, cn_false] at hn
  have h5 : 0 ≤ (y - b) * (c - a) := Int.mul_nonneg (by omega) (by omega)
  have h6 : (y - b) * (c - a) ≤ (d - b - 1) * (c - a) := Int.mul_le_mul_of_nonneg_right (by omega) (by omega)
  have h7 : (d - b - 1) * (c - a) = (c - a) * (d - b) - (c - a) := by rw [Int.sub_mul, Int.one_mul, Int.mul_comm]
  omega
theorem getD_bd {l : List Int} (h : BB l) (n : Nat) : 0 ≤ l.getD n 0 ∧ l.getD n 0 ≤ 255 := by
  rw [List.getD_eq_getElem?_getD]
  cases e : l[n]? with
  | none => simp
  | some x => simpa using h x (List.mem_of_getElem? e)
theorem mAt_bd {a b c d x y : Int} {l : List Int} (h : BB l) : 0 ≤ mAt a b c d l x y ∧ mAt a b c d l x y ≤ 255 := by
  unfold mAt
  split
  · exact getD_bd h _
  · omega
/-- Row by row: the values of f over a rectangle. -/
def rowL (f : Int → Int → Int) (y x0 : Int) (n : Nat) : List Int := (List.range n).map fun i : Nat => f (x0 + (i : Int)) y
def gridN (f : Int → Int → Int) (x0 y0 : Int) (n m : Nat) : List Int := (List.range m).flatMap fun j : Nat => rowL f (y0 + (j : Int)) x0 n
def gridL (f : Int → Int → Int) (a b c d : Int) : List Int := gridN f a b (c - a).toNat (d - b).toNat
theorem rowL_len (f : Int → Int → Int) (y x0 : Int) (n : Nat) : (rowL f y x0 n).length = n := by simp [rowL]
theorem rowL_snoc (f : Int → Int → Int) (y x0 : Int) (n : Nat) : rowL f y x0 (n + 1) = rowL f y x0 n ++ [f (x0 + (n : Int)) y] := by simp [rowL, List.range_succ]
theorem gridN_snoc (f : Int → Int → Int) (x0 y0 : Int) (n m : Nat) : gridN f x0 y0 n (m + 1) = gridN f x0 y0 n m ++ rowL f (y0 + (m : Int)) x0 n := by simp [gridN, List.range_succ]
theorem gridN_len (f : Int → Int → Int) (x0 y0 : Int) (n m : Nat) : (gridN f x0 y0 n m).length = n * m := by
  induction m with
  | zero => simp [gridN]
  | succ m ih => rw [gridN_snoc, List.length_append, ih, rowL_len, Nat.mul_succ]
theorem gridN_get (f : Int → Int → Int) (x0 y0 : Int) (n : Nat) : ∀ m j i, j < m → i < n → (gridN f x0 y0 n m)[j * n + i]? = some (f (x0 + (i : Int)) (y0 + (j : Int)))
  | 0, j, i, hj, hi => by omega
  | m + 1, j, i, hj, hi => by
    rw [gridN_snoc]
    by_cases h : j < m
    · rw [List.getElem?_append_left (by rw [gridN_len]; calc j * n + i < j * n + n := by omega
                                                             _ = (j + 1) * n := by rw [Nat.succ_mul]
                                                             _ ≤ m * n := Nat.mul_le_mul_right n h
                                                             _ = n * m := Nat.mul_comm _ _)]
      exact gridN_get f x0 y0 n m j i h hi
    · obtain rfl : j = m := by omega
      rw [List.getElem?_append_right (by rw [gridN_len, Nat.mul_comm]; omega), gridN_len, Nat.mul_comm n j, show j * n + i - j * n = i by omega]
      simp [rowL, hi]
theorem gridN_congr {f g : Int → Int → Int} {x0 y0 : Int} {n m : Nat} (h : ∀ i j : Nat, i < n → j < m → f (x0 + (i : Int)) (y0 + (j : Int)) = g (x0 + (i : Int)) (y0 + (j : Int))) : gridN f x0 y0 n m = gridN g x0 y0 n m := by
  induction m with
  | zero => rfl
  | succ m ih =>
    rw [gridN_snoc, gridN_snoc, ih (fun i j hi hj => h i j hi (by omega))]
    congr 1
    unfold rowL
    exact List.map_congr_left (fun i hi => h i m (by simpa using hi) (by omega))
theorem gridN_bd {f : Int → Int → Int} {x0 y0 : Int} {n m : Nat} (h : ∀ x y, 0 ≤ f x y ∧ f x y ≤ 255) : BB (gridN f x0 y0 n m) := by
  intro x hx
  simp only [gridN, rowL, List.mem_flatMap, List.mem_map] at hx
  obtain ⟨j, _, i, _, rfl⟩ := hx
  exact h _ _
theorem gridL_len {f : Int → Int → Int} {a b c d : Int} (h : caR a b c d = true) : ((gridL f a b c d).length : Int) = arR a b c d := by
  unfold gridL
  rw [gridN_len]
  cases he : eR a b c d with
  | true =>
    simp [caR, he] at h
    obtain ⟨⟨⟨rfl, rfl⟩, rfl⟩, rfl⟩ := h
    decide
  | false =>
    have h1 := (eR_false a b c d).1 he
    simp only [arR, he, cn_false]
    rw [Int.natCast_mul, Int.toNat_of_nonneg (by omega), Int.toNat_of_nonneg (by omega)]
/-- The value of a grid at a pixel. -/
theorem mAt_grid {f : Int → Int → Int} {a b c d x y : Int} (h : ctB a b c d x y = true) : mAt a b c d (gridL f a b c d) x y = f x y := by
  obtain ⟨_, _, _, _, h1, h2, h3, h4, he⟩ := ct_bd h
  unfold mAt
  rw [if_pos h]
  obtain ⟨n, hn⟩ : ∃ n : Nat, c - a = (n : Int) := ⟨(c - a).toNat, by omega⟩
  obtain ⟨i, hi⟩ : ∃ i : Nat, x - a = (i : Int) := ⟨(x - a).toNat, by omega⟩
  obtain ⟨j, hj⟩ : ∃ j : Nat, y - b = (j : Int) := ⟨(y - b).toNat, by omega⟩
  have e : ((y - b) * (c - a) + x - a).toNat = j * n + i := by
    rw [hn, hj]
    have : (j : Int) * (n : Int) + x - a = ((j * n + i : Nat) : Int) := by
      rw [Int.natCast_add, Int.natCast_mul]; omega
    rw [this]; exact Int.toNat_natCast _
  rw [e, List.getD_eq_getElem?_getD, gridL, hn, Int.toNat_natCast, gridN_get f a b n _ j i (by omega) (by omega)]
  simp only [Option.getD_some]
  congr 1 <;> omega
end Go.Proofs.Ytfbgfnebodabpaa
