import Derived.Test.YtbipanhgjbnljaaRectNum2
namespace Go.Proofs.Ytbipanhgjbnljaa
set_option linter.unusedVariables false
set_option linter.unusedSimpArgs false
/- plain facts for the law on unions, intersections and outsets -/
theorem uLo_comm (p q : Bool) (a s : Int) : uLo p q a s = uLo q p s a := by
  cases p <;> cases q <;> simp [uLo, cn] <;> omega
theorem uHi_comm (p q : Bool) (a s : Int) : uHi p q a s = uHi q p s a := by
  cases p <;> cases q <;> simp [uHi, cn] <;> omega
theorem eR_of {a b c d : Int} (h : (-4096 ≤ a ∧ a ≤ 4096) ∧ (-4096 ≤ b ∧ b ≤ 4096) ∧ (-4096 ≤ c ∧ c ≤ 4096) ∧ (-4096 ≤ d ∧ d ≤ 4096) ∧ a < c ∧ b < d) : eR a b c d = false := (eR_false a b c d).2 h
theorem eR_zero : eR 0 0 0 0 = true := by decide
theorem in_left (a b c d s t u v m0 m1 m2 m3 : Int) (j0 : max (cn (eR a b c d) a) (cn (eR s t u v) s) = m0) (j1 : max (cn (eR a b c d) b) (cn (eR s t u v) t) = m1) (j2 : min (cn (eR a b c d) c) (cn (eR s t u v) u) = m2) (j3 : min (cn (eR a b c d) d) (cn (eR s t u v) v) = m3) :
    wB (cn (eR m0 m1 m2 m3) m0) (cn (eR m0 m1 m2 m3) m1) (cn (eR m0 m1 m2 m3) m2) (cn (eR m0 m1 m2 m3) m3) a b c d = true ∧ wB (cn (eR m0 m1 m2 m3) m0) (cn (eR m0 m1 m2 m3) m1) (cn (eR m0 m1 m2 m3) m2) (cn (eR m0 m1 m2 m3) m3) s t u v = true := by
  cases em : eR m0 m1 m2 m3 with
  | true => simp only [cn_true]; exact ⟨(wB_true _ _ _ _ _ _ _ _).2 (.inl eR_zero), (wB_true _ _ _ _ _ _ _ _).2 (.inl eR_zero)⟩
  | false =>
    simp only [cn_false]
    cases ea : eR a b c d with
    | true => have := ix_empty a b c d s t u v m0 m1 m2 m3 j0 j1 j2 j3 (.inl ea); rw [em] at this; exact absurd this (by simp)
    | false =>
      cases es : eR s t u v with
      | true => have := ix_empty a b c d s t u v m0 m1 m2 m3 j0 j1 j2 j3 (.inr es); rw [em] at this; exact absurd this (by simp)
      | false =>
        rw [ea, es] at j0 j1 j2 j3
        simp only [cn_false] at j0 j1 j2 j3
        exact ⟨(wB_true _ _ _ _ _ _ _ _).2 (.inr ⟨ea, by omega, by omega, by omega, by omega⟩), (wB_true _ _ _ _ _ _ _ _).2 (.inr ⟨es, by omega, by omega, by omega, by omega⟩)⟩
theorem in_union (a b c d s t u v : Int) :
    wB a b c d (uLo (eR a b c d) (eR s t u v) a s) (uLo (eR a b c d) (eR s t u v) b t) (uHi (eR a b c d) (eR s t u v) c u) (uHi (eR a b c d) (eR s t u v) d v) = true := by
  cases ea : eR a b c d with
  | true => exact (wB_true _ _ _ _ _ _ _ _).2 (.inl ea)
  | false =>
    have k := (eR_false a b c d).1 ea
    cases es : eR s t u v with
    | true => simp only [uLo, uHi, if_true, Bool.false_eq_true, if_false]; exact (wB_true _ _ _ _ _ _ _ _).2 (.inr ⟨ea, by omega, by omega, by omega, by omega⟩)
    | false =>
      have k2 := (eR_false s t u v).1 es
      simp only [uLo, uHi, if_true, Bool.false_eq_true, if_false]
      exact (wB_true _ _ _ _ _ _ _ _).2 (.inr ⟨eR_of (by omega), by omega, by omega, by omega, by omega⟩)
theorem in_union2 (a b c d s t u v : Int) :
    wB s t u v (uLo (eR a b c d) (eR s t u v) a s) (uLo (eR a b c d) (eR s t u v) b t) (uHi (eR a b c d) (eR s t u v) c u) (uHi (eR a b c d) (eR s t u v) d v) = true := by
  rw [uLo_comm, uLo_comm _ _ b, uHi_comm, uHi_comm _ _ d]
  exact in_union s t u v a b c d
theorem in_out (a b c d n o0 o1 o2 o3 : Int) (h0 : 0 ≤ n) (h1 : n ≤ 4095) (j0 : max (-4096) (min (a - n) 4096) = o0) (j1 : max (-4096) (min (b - n) 4096) = o1) (j2 : max (-4096) (min (c + n) 4096) = o2) (j3 : max (-4096) (min (d + n) 4096) = o3) :
    wB a b c d (cn (eR a b c d) (cn (eR o0 o1 o2 o3) o0)) (cn (eR a b c d) (cn (eR o0 o1 o2 o3) o1)) (cn (eR a b c d) (cn (eR o0 o1 o2 o3) o2)) (cn (eR a b c d) (cn (eR o0 o1 o2 o3) o3)) = true := by
  cases ea : eR a b c d with
  | true => exact (wB_true _ _ _ _ _ _ _ _).2 (.inl ea)
  | false =>
    have k := (eR_false a b c d).1 ea
    have eo : eR o0 o1 o2 o3 = false := eR_of (by omega)
    rw [eo]; simp only [cn_false]
    exact (wB_true _ _ _ _ _ _ _ _).2 (.inr ⟨eo, by omega, by omega, by omega, by omega⟩)
theorem in_in (a b c d n q0 q1 q2 q3 : Int) (h0 : 0 ≤ n) (h1 : n ≤ 4095) (j0 : max (-4096) (min (a - -n) 4096) = q0) (j1 : max (-4096) (min (b - -n) 4096) = q1) (j2 : max (-4096) (min (c + -n) 4096) = q2) (j3 : max (-4096) (min (d + -n) 4096) = q3) :
    wB (cn (eR a b c d) (cn (eR q0 q1 q2 q3) q0)) (cn (eR a b c d) (cn (eR q0 q1 q2 q3) q1)) (cn (eR a b c d) (cn (eR q0 q1 q2 q3) q2)) (cn (eR a b c d) (cn (eR q0 q1 q2 q3) q3)) a b c d = true := by
  cases ea : eR a b c d with
  | true => simp only [cn_true]; exact (wB_true _ _ _ _ _ _ _ _).2 (.inl eR_zero)
  | false =>
    have k := (eR_false a b c d).1 ea
    simp only [cn_false]
    cases eq : eR q0 q1 q2 q3 with
    | true => simp only [cn_true]; exact (wB_true _ _ _ _ _ _ _ _).2 (.inl eR_zero)
    | false => simp only [cn_false]; exact (wB_true _ _ _ _ _ _ _ _).2 (.inr ⟨ea, by omega, by omega, by omega, by omega⟩)
set_option maxHeartbeats 4000000 in
theorem in_back (a b c d n o0 o1 o2 o3 g0 g1 g2 g3 r0 r1 r2 r3 : Int) (h0 : 0 ≤ n) (h1 : n ≤ 4095) (j0 : max (-4096) (min (a - n) 4096) = o0) (j1 : max (-4096) (min (b - n) 4096) = o1) (j2 : max (-4096) (min (c + n) 4096) = o2) (j3 : max (-4096) (min (d + n) 4096) = o3)
    (i0 : cn (eR a b c d) (cn (eR o0 o1 o2 o3) o0) = g0) (i1 : cn (eR a b c d) (cn (eR o0 o1 o2 o3) o1) = g1) (i2 : cn (eR a b c d) (cn (eR o0 o1 o2 o3) o2) = g2) (i3 : cn (eR a b c d) (cn (eR o0 o1 o2 o3) o3) = g3) (k0 : max (-4096) (min (g0 - -n) 4096) = r0) (k1 : max (-4096) (min (g1 - -n) 4096) = r1) (k2 : max (-4096) (min (g2 + -n) 4096) = r2) (k3 : max (-4096) (min (g3 + -n) 4096) = r3) :
    wB (cn (eR g0 g1 g2 g3) (cn (eR r0 r1 r2 r3) r0)) (cn (eR g0 g1 g2 g3) (cn (eR r0 r1 r2 r3) r1)) (cn (eR g0 g1 g2 g3) (cn (eR r0 r1 r2 r3) r2)) (cn (eR g0 g1 g2 g3) (cn (eR r0 r1 r2 r3) r3)) a b c d = true := by
  cases ea : eR a b c d with
  | true =>
    rw [ea] at i0 i1 i2 i3
    simp only [cn_true] at i0 i1 i2 i3
    rw [← i0, ← i1, ← i2, ← i3, eR_zero]; simp only [cn_true]; exact (wB_true _ _ _ _ _ _ _ _).2 (.inl eR_zero)
  | false =>
    have k := (eR_false a b c d).1 ea
    have eo : eR o0 o1 o2 o3 = false := eR_of (by omega)
    rw [ea, eo] at i0 i1 i2 i3
    simp only [cn_false] at i0 i1 i2 i3
    have eg : eR g0 g1 g2 g3 = false := by rw [← i0, ← i1, ← i2, ← i3]; exact eo
    rw [eg]; simp only [cn_false]
    cases er : eR r0 r1 r2 r3 with
    | true => simp only [cn_true]; exact (wB_true _ _ _ _ _ _ _ _).2 (.inl eR_zero)
    | false =>
      simp only [cn_false]
      have w0 : a ≤ r0 := by omega
      have w1 : r2 ≤ c := by omega
      have w2 : b ≤ r1 := by omega
      have w3 : r3 ≤ d := by omega
      exact (wB_true _ _ _ _ _ _ _ _).2 (.inr ⟨ea, w0, w1, w2, w3⟩)
end Go.Proofs.Ytbipanhgjbnljaa
