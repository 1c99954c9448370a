
import Derived.Test.YtdkbmpncohhioaaGreatDoorNt3
namespace Go.Proofs.YtdkbmpncohhioaaGreatDoor
open Go.RowKit
set_option linter.unusedVariables false
set_option linter.unusedSimpArgs false
attribute [local go_sem ↓] Go.wp_at_zero Go.wp_at_succ
theorem pneg_fmt (z : Int) : pneg (zfmt z) = decide (z < 0) ∧ pdig (zfmt z) = Lib.decDigits z.natAbs := by
  by_cases h : z < 0
  · rw [zfmt_neg h]
    have : pneg (45 :: Lib.decDigits z.natAbs) = true := by simp [pneg]
    exact ⟨by rw [this]; simp [h], by unfold pdig; rw [if_pos this]; rfl⟩
  · rw [zfmt_pos h]
    have h2 : pneg (Lib.decDigits z.natAbs) = false := by
      unfold pneg
      rw [decide_eq_false_iff_not]
      intro e
      have h3 := dec_digs z.natAbs
      have h4 := digs_mem h3 45 (List.mem_of_mem_head? e)
      have h5 : (45 : UInt8).toNat = 45 := rfl
      omega
    exact ⟨by rw [h2, decide_eq_false h], by unfold pdig; rw [h2]; rfl⟩
theorem fmt_back (z : Int) : zv (pneg (zfmt z)) (dv (pdig (zfmt z))) = z ∧ isDec (pdig (zfmt z)) = true ∧ ¬ (pneg (zfmt z) = true ∧ dv (pdig (zfmt z)) = 0) := by
  obtain ⟨h1, h2⟩ := pneg_fmt z
  rw [h1, h2, dv_dec]
  refine ⟨zv_of z, dec_isDec _, ?_⟩
  rintro ⟨h3, h4⟩
  simp at h3; omega
theorem fmt_parse {l : List UInt8} (hb : isDec (pdig l) = true) (hv : ¬ (pneg l = true ∧ dv (pdig l) = 0)) : zfmt (zv (pneg l) (dv (pdig l))) = l := by
  have hs := zv_sign_ok hv
  by_cases hn : pneg l = true
  · rw [hn] at hs ⊢
    have hz : zv true (dv (pdig l)) < 0 := by simpa using hs
    rw [zfmt_neg hz, zv_abs, dec_dv hb]
    have : l.head? = some 45 := by simpa [pneg] using hn
    unfold pdig
    rw [if_pos hn]
    cases l with
    | nil => simp at this
    | cons c t => simp at this; rw [this]; rfl
  · have hn' : pneg l = false := by simpa using hn
    rw [hn'] at hs ⊢
    have hz : ¬ zv false (dv (pdig l)) < 0 := by simpa using hs
    rw [zfmt_pos hz, zv_abs, dec_dv hb]
    unfold pdig
    rw [hn']; rfl
theorem rn_form (x y : Int) : 0 < rnD x y ∧ Nat.gcd (rnN x y).natAbs (rnD x y).natAbs = 1 := by
  unfold rnN rnD
  by_cases h : y = 0
  · rw [if_pos h, if_pos h]; exact ⟨by decide, rfl⟩
  · rw [if_neg h, if_neg h, zv_abs, Int.natAbs_natCast]
    have hy : 0 < y.natAbs := by omega
    have hg : 0 < Nat.gcd x.natAbs y.natAbs := Nat.gcd_pos_of_pos_right _ hy
    refine ⟨?_, ?_⟩
    · have := Nat.div_pos (Nat.le_of_dvd hy (Nat.gcd_dvd_right x.natAbs y.natAbs)) hg
      omega
    · rw [Nat.gcd_div (Nat.gcd_dvd_left _ _) (Nat.gcd_dvd_right _ _), Nat.div_self hg]
theorem rn_norm (x y : Int) : rnB (decide (rnN x y < 0)) false (canon (rnN x y).natAbs) (canon (rnD x y).natAbs) = true := by
  obtain ⟨h1, h2⟩ := rn_form x y
  unfold rnB isnV
  rw [trim_canon, trim_canon, valD_canon, valD_canon, h2]
  have e1 : zv false (rnD x y).natAbs = rnD x y := by unfold zv; simp; omega
  rw [e1]
  have e2 : (decide (rnN x y < 0) && decide ((canon (rnN x y).natAbs).length = 0)) = false := by
    by_cases h : rnN x y < 0
    · have : (canon (rnN x y).natAbs).length ≠ 0 := by rw [Ne, canon_len_zero]; omega
      simp [this]
    · simp [h]
  rw [e2]
  simp [h1]
theorem no47_dec (n : Nat) : ∀ c ∈ Lib.decDigits n, c ≠ 47 := fun c hc e => by
  have h := digs_mem (dec_digs n) c hc
  rw [e] at h
  have h5 : (47 : UInt8).toNat = 47 := rfl
  omega
theorem no47 (z : Int) : ∀ c ∈ zfmt z, c ≠ 47 := by
  by_cases h : z < 0
  · rw [zfmt_neg h]
    intro c hc
    rcases List.mem_cons.1 hc with rfl | hc
    · decide
    · exact no47_dec _ c hc
  · rw [zfmt_pos h]
    exact no47_dec _
theorem idx_none (A : List UInt8) (h : ∀ c ∈ A, c ≠ 47) : Lib.index A [47] = -1 := by
  induction A with
  | nil => rfl
  | cons b t ih =>
    have h1 : ([47] : List UInt8).isPrefixOf (b :: t) = false := by
      have := h b (by simp)
      simp [List.isPrefixOf]; exact fun e => this e.symm
    rw [Lib.index, h1, ih (fun c hc => h c (by simp [hc]))]
    rfl
theorem idx_app (A B : List UInt8) (h : ∀ c ∈ A, c ≠ 47) : Lib.index (A ++ 47 :: B) [47] = (A.length : Int) := by
  induction A with
  | nil =>
    show Lib.index (47 :: B) [47] = 0
    rw [Lib.index, if_pos (by simp [List.isPrefixOf])]
  | cons b t ih =>
    have h1 : ([47] : List UInt8).isPrefixOf (b :: (t ++ 47 :: B)) = false := by
      have := h b (by simp)
      simp [List.isPrefixOf]; exact fun e => this e.symm
    rw [List.cons_append, Lib.index, h1, ih (fun c hc => h c (by simp [hc]))]
    have h2 : ((t.length : Int) == -1) = false := by rw [beq_eq_false_iff_ne]; omega
    rw [h2]
    simp
theorem idx_spec (l : List UInt8) : Lib.index l [47] = -1 ∨ ∃ i : Nat, Lib.index l [47] = (i : Int) ∧ i < l.length ∧ l = l.take i ++ 47 :: l.drop (i + 1) := by
  induction l with
  | nil => exact .inl rfl
  | cons b t ih =>
    by_cases h : b = 47
    · subst h
      exact .inr ⟨0, by rw [Lib.index, if_pos (by simp [List.isPrefixOf])]; rfl, by simp, by simp⟩
    · have h1 : ([47] : List UInt8).isPrefixOf (b :: t) = false := by
        simp [List.isPrefixOf]; exact fun e => h e.symm
      rcases ih with h2 | ⟨i, h2, h3, h4⟩
      · left; rw [Lib.index, h1, h2]; rfl
      · right
        refine ⟨i + 1, ?_, by simp; omega, ?_⟩
        · rw [Lib.index, h1, h2]
          have h5 : ((i : Int) == -1) = false := by rw [beq_eq_false_iff_ne]; omega
          rw [h5]
          simp
        · rw [List.take_succ_cons, List.drop_succ_cons, List.cons_append, ← h4]
theorem cut_none {A : List UInt8} (h : ∀ c ∈ A, c ≠ 47) : cA A = A ∧ cF A = false := by
  unfold cA cF Lib.cut
  rw [idx_none A h]
  exact ⟨rfl, rfl⟩
theorem cut_app {A B : List UInt8} (h : ∀ c ∈ A, c ≠ 47) : cA (A ++ 47 :: B) = A ∧ cB (A ++ 47 :: B) = B ∧ cF (A ++ 47 :: B) = true := by
  unfold cA cB cF Lib.cut
  rw [idx_app A B h, if_pos (by omega), Int.toNat_natCast]
  refine ⟨List.take_left, ?_, rfl⟩
  show (A ++ 47 :: B).drop (A.length + 1) = B
  rw [← List.drop_drop, List.drop_left]; rfl
theorem cut_back (l : List UInt8) : (cF l = false ∧ cA l = l) ∨ (cF l = true ∧ l = cA l ++ 47 :: cB l) := by
  unfold cA cB cF Lib.cut
  rcases idx_spec l with h | ⟨i, h, h2, h3⟩
  · rw [h]
    exact .inl ⟨rfl, rfl⟩
  · rw [h, if_pos (by omega), Int.toNat_natCast]
    exact .inr ⟨rfl, h3⟩
theorem pE_fmt {z : Int} (h : (canon z.natAbs).length ≤ 90) : pE (zfmt z) = 0 ∧ pZ (zfmt z) = z := by
  obtain ⟨h1, h2, h3⟩ := fmt_back z
  have h4 := dec_fit (canon z.natAbs) 90 h
  rw [valD_canon] at h4
  refine ⟨?_, h1⟩
  unfold pE
  rw [if_neg (by rw [h2]; decide), if_neg (by rw [(pneg_fmt z).2]; omega), if_neg h3]
theorem pE_back {l : List UInt8} (h : pE l = 0) : zfmt (pZ l) = l := by
  obtain ⟨h1, _, h3⟩ := pE_zero h
  exact fmt_parse h1 h3
theorem iE_fmt {n : Int} (h0 : -9223372036854775808 ≤ n) (h1 : n ≤ 9223372036854775807) : iE (zfmt n) = 0 ∧ iV (zfmt n) = n := by
  obtain ⟨h2, h3⟩ := pE_fmt (z := n) (Nat.le_trans (canon_in h0 h1) (by decide))
  obtain ⟨h4, h5⟩ := toV_in h0 h1
  unfold iE iV
  rw [if_pos h2, if_pos h2, h3, h4, h5]
  exact ⟨rfl, rfl⟩
theorem iE_back {l : List UInt8} (h : iE l = 0) : zfmt (iV l) = l := by
  unfold iE at h
  unfold iV
  by_cases h0 : pE l = 0
  · rw [if_pos h0] at h ⊢
    cases hb : toB (pZ l)
    · rw [hb] at h; cases h
    · have : toV (pZ l) = pZ l := by
        unfold toB at hb
        unfold toV
        rw [if_pos (of_decide_eq_true hb)]
      rw [this]
      exact pE_back h0
  · rw [if_neg h0] at h; exact absurd h h0
theorem gcd_low {n d : Int} (h : 0 < d) (h2 : rnD n d = d) : Nat.gcd n.natAbs d.natAbs = 1 := by
  obtain ⟨h3, h4⟩ := rn_pos (n := n) h
  rw [h4] at h2
  have hd : 0 < d.natAbs := by omega
  have e : d.natAbs / Nat.gcd n.natAbs d.natAbs = d.natAbs := by omega
  rcases Nat.lt_or_ge 1 (Nat.gcd n.natAbs d.natAbs) with h5 | h5
  · have := Nat.div_lt_self hd h5; omega
  · have := Nat.gcd_pos_of_pos_right n.natAbs hd; omega
theorem low_gcd {n d : Int} (h : 0 < d) (h2 : Nat.gcd n.natAbs d.natAbs = 1) : rnD n d = d ∧ rnN n d = n := by
  obtain ⟨h3, h4⟩ := rn_pos (n := n) h
  rw [h3, h4, h2, Nat.div_one, Nat.div_one]
  exact ⟨by omega, zv_of n⟩
/-- A normalized fraction's text is read back. -/
theorem qE_fmt (x y : Int) (h1 : (canon (rnN x y).natAbs).length ≤ 90) (h2 : (canon (rnD x y).natAbs).length ≤ 90) : qE (fmtR (rnN x y) (rnD x y)) = 0 ∧ pZ (cA (fmtR (rnN x y) (rnD x y))) = rnN x y ∧ qD (fmtR (rnN x y) (rnD x y)) = rnD x y := by
  obtain ⟨h3, h4⟩ := rn_form x y
  obtain ⟨P, hP⟩ : ∃ P, rnN x y = P := ⟨_, rfl⟩
  obtain ⟨Q, hQ⟩ : ∃ P, rnD x y = P := ⟨_, rfl⟩
  rw [hP] at h1 h4
  rw [hQ] at h2 h3 h4
  rw [hP, hQ]
  obtain ⟨p1, p2⟩ := pE_fmt h1
  obtain ⟨p3, p4⟩ := pE_fmt h2
  unfold fmtR
  by_cases h : Q = 1
  · rw [if_pos h]
    obtain ⟨c1, c2⟩ := cut_none (no47 P)
    unfold qE qD
    rw [c1, c2, p1, p2]
    refine ⟨?_, rfl, ?_⟩
    · simp [(rnD_one P).1]
    · simp [h]
  · rw [if_neg h, List.append_assoc]
    obtain ⟨c1, c2, c3⟩ := cut_app (A := zfmt P) (B := zfmt Q) (no47 P)
    show qE (zfmt P ++ 47 :: zfmt Q) = 0 ∧ pZ (cA (zfmt P ++ 47 :: zfmt Q)) = P ∧ qD (zfmt P ++ 47 :: zfmt Q) = Q
    unfold qE qD
    rw [c1, c2, c3, p1, p2, p3, p4]
    refine ⟨?_, rfl, rfl⟩
    have e1 : ¬ (Q ≤ 1) := by omega
    simp [e1, (low_gcd h3 h4).1]
/-- What was read is normalized, and its text is what was read. -/
theorem qE_back {l : List UInt8} (h : qE l = 0) : 0 < qD l ∧ Nat.gcd (pZ (cA l)).natAbs (qD l).natAbs = 1 ∧ fmtR (pZ (cA l)) (qD l) = l ∧ pE (cA l) = 0 ∧ (canon (qD l).natAbs).length ≤ 1000 := by
  unfold qE at h
  split at h
  · omega
  · rename_i hA
    have hA' : pE (cA l) = 0 := by omega
    split at h
    · rename_i h9; exact absurd h h9.2
    · rename_i hB
      split at h
      · omega
      · rename_i hC
        split at h
        · omega
        · rename_i hD
          have hD' : rnD (pZ (cA l)) (qD l) = qD l := by omega
          rcases cut_back l with ⟨c1, c2⟩ | ⟨c1, c2⟩
          · have e1 : qD l = 1 := by unfold qD; rw [c1]; rfl
            refine ⟨by omega, gcd_low (by omega) hD', ?_, hA', by rw [e1]; exact Nat.le_trans (canon_in (by decide) (by decide)) (by decide)⟩
            rw [e1]
            unfold fmtR
            rw [if_pos rfl, pE_back hA', c2]
          · have e1 : qD l = pZ (cB l) := by unfold qD; rw [c1]; rfl
            have hB' : pE (cB l) = 0 := by
              rcases Nat.eq_zero_or_pos (pE (cB l)) with h9 | h9
              · exact h9
              · exact absurd ⟨c1, by omega⟩ hB
            have hC' : 1 < pZ (cB l) := by
              rcases Int.lt_or_le 1 (pZ (cB l)) with h9 | h9
              · exact h9
              · exact absurd ⟨c1, h9⟩ hC
            refine ⟨by omega, gcd_low (by omega) hD', ?_, hA', by rw [e1]; exact pZ_len hB'⟩
            rw [e1]
            unfold fmtR
            rw [if_neg (by omega), pE_back hA', pE_back hB', List.append_assoc]
            exact c2.symm
end Go.Proofs.YtdkbmpncohhioaaGreatDoor
