import Derived.Test.YtbplcgbfhijbcaaJI
namespace Go.Proofs.Ytbplcgbfhijbcaa
open Go.RowKit
set_option linter.unusedVariables false
set_option linter.unusedSimpArgs false
/-- A normalized fraction is its own normalized form. -/
theorem rn_self {s : Bool} {l k : List (BitVec 32)} (h : rnB s false l k = true) : rnN (zv s (valD l)) (zv false (valD k)) = zv s (valD l) ∧ rnD (zv s (valD l)) (zv false (valD k)) = (valD k : Int) ∧ (s = true → 0 < valD l) := by
  unfold rnB isnV at h
  simp only [Bool.and_eq_true, decide_eq_true_eq, beq_iff_eq, Bool.not_eq_true', Bool.and_eq_false_imp, decide_eq_false_iff_not] at h
  obtain ⟨⟨h1, h2⟩, ⟨h3, _⟩, h4, h5⟩ := h
  have h4' : 0 < zv false (valD k) := h4
  have hs : s = true → 0 < valD l := fun e => by
    have hl : 0 < l.length := by have := h2 e; omega
    have h6 := valD_len l h1 hl
    have h7 := pw_pos (l.length - 1)
    omega
  obtain ⟨e1, e2⟩ := rn_pos (n := zv s (valD l)) h4'
  rw [e1, e2, zv_abs, zv_abs, h5, Nat.div_one, Nat.div_one, zv_neg]
  refine ⟨?_, rfl, hs⟩
  cases s
  · rfl
  · rw [decide_eq_true (hs rfl)]; rfl
theorem sgB_zv {s : Bool} {v : Nat} (h : s = true → 0 < v) : sgB (zv s v) = if s then 1#8 else 0#8 := by
  unfold sgB
  cases s
  · rw [if_neg (by simp [zv])]; rfl
  · have := h rfl
    rw [if_pos (by simp [zv]; omega)]; rfl
theorem putB_inj {x y p q : List (BitVec 8)} (hx : x.length < 18446744073709551616) (hy : y.length < 18446744073709551616) (h : putB x ++ p = putB y ++ q) : x = y ∧ p = q := by
  unfold putB at h
  rw [List.append_assoc, List.append_assoc] at h
  have e := congrArg uvV h
  rw [(uv_putU _ hx _).2.1, (uv_putU _ hy _).2.1] at e
  rw [e] at h
  exact List.append_inj (List.append_cancel_left h) e
theorem d8_small (l : List (BitVec 8)) : (d8 (val8 l)).length ≤ l.length := d8_len _ _ (val8_lt l)
theorem put_iff (b : List (BitVec 8)) (num den : List (BitVec 8)) (hn1 : num.length ≤ 4096) (hd1 : den.length ≤ 4096) : decide (b ++ putB (d8 (val8 num)) ++ putB (d8 (val8 den)) = b ++ putB num ++ putB den) = (!(ezB num) && !(ezB den)) := by
  have h1 := d8_small num
  have h2 := d8_small den
  rw [Bool.eq_iff_iff, decide_eq_true_iff, Bool.and_eq_true, Bool.not_eq_true', Bool.not_eq_true', ← d8_iff, ← d8_iff]
  constructor
  · intro h
    rw [List.append_assoc, List.append_assoc] at h
    obtain ⟨h3, h4⟩ := putB_inj (by omega) (by omega) (List.append_cancel_left h)
    exact ⟨h3, (putB_inj (p := []) (q := []) (by omega) (by omega) (by rw [h4])).1⟩
  · rintro ⟨h3, h4⟩
    rw [h3, h4]
/-- The two tests of a decoded fraction agree. -/
theorem rat_tests (s : Bool) (num den : List (BitVec 8)) (L : List (BitVec 32)) (hL : valD L = val8 num) (hLl : L.length = (num.length + 3) / 4) (hn1 : num.length ≤ 4096) (hd1 : den.length ≤ 4096) :
    (!(ezB num) && (!(ezB den) && rnB s false L (canon (val8 den)))) = (rnB s false (canon (val8 num)) (canon (val8 den)) && decide (putF (rnN (zv s (valD (canon (val8 num)))) (zv false (valD (canon (val8 den))))) (rnD (zv s (valD (canon (val8 num)))) (zv false (valD (canon (val8 den))))) = [if s then 1#8 else 0#8] ++ putB num ++ putB den)) := by
  by_cases hb : rnB s false (canon (val8 num)) (canon (val8 den)) = true
  · obtain ⟨e1, e2, e3⟩ := rn_self hb
    rw [e1, e2, hb, Bool.true_and]
    unfold putF
    rw [sgB_zv e3, zv_abs, Int.natAbs_natCast, valD_canon, valD_canon]
    rw [put_iff _ num den hn1 hd1]
    by_cases h1 : ezB num = false
    · rw [fb_canon h1 hL hLl, hb, Bool.and_true]
    · rw [show ezB num = true by simpa using h1]; rfl
  · have hb' : rnB s false (canon (val8 num)) (canon (val8 den)) = false := by simpa using hb
    rw [hb', Bool.false_and]
    by_cases h1 : ezB num = false
    · rw [fb_canon h1 hL hLl, hb', Bool.and_false, Bool.and_false]
    · rw [show ezB num = true by simpa using h1]; rfl
end Go.Proofs.Ytbplcgbfhijbcaa
