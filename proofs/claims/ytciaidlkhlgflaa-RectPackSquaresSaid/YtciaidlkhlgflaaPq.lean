import Derived.Test.YtciaidlkhlgflaaPk
namespace Go.Proofs.Ytciaidlkhlgflaa
set_option linter.unusedVariables false
/- squares of one size on a page -/
def sqS (s c f p : Nat) : List (Int × Int × Int) := (List.range f).map (fun i => (((i * s : Nat) : Int), (s : Int), ((c * s : Nat) : Int))) ++ (if p = 0 then [] else [(((f * s : Nat) : Int), (s : Int), ((p * s : Nat) : Int))])
def sqB (s f p : Nat) : Int := (((f + if p = 0 then 0 else 1) * s : Nat) : Int)
theorem sqS_full (s c f : Nat) (hc : c ≠ 0) : sqS s c f c = sqS s c (f + 1) 0 := by
  simp [sqS, hc, List.range_succ]
theorem sqS_len (s c f p : Nat) : (sqS s c f p).length = f + if p = 0 then 0 else 1 := by
  unfold sqS
  split <;> simp
theorem sq_fit_no {W s c i : Nat} (h : W < (c + 1) * s) : fitB (W : Int) ((s : Int), (s : Int)) (((i * s : Nat) : Int), (s : Int), ((c * s : Nat) : Int)) = false := by
  rw [Nat.add_mul] at h
  generalize c * s = x at *
  simp [fitB]
  omega
theorem sq_fit_yes {W s p f : Nat} (h : (p + 1) * s ≤ W) : fitB (W : Int) ((s : Int), (s : Int)) (((f * s : Nat) : Int), (s : Int), ((p * s : Nat) : Int)) = true := by
  rw [Nat.add_mul] at h
  generalize p * s = x at *
  simp [fitB]
  omega
theorem sq_at {s c f p i : Nat} (h : i < f) (hi : i < (sqS s c f p).length) : (sqS s c f p)[i] = (((i * s : Nat) : Int), (s : Int), ((c * s : Nat) : Int)) := by
  rw [List.getElem_eq_iff]
  unfold sqS
  rw [List.getElem?_append_left (by simpa using h)]
  simp [h]
theorem sq_last {s c f p : Nat} (hp : p ≠ 0) (hi : f < (sqS s c f p).length) : (sqS s c f p)[f] = (((f * s : Nat) : Int), (s : Int), ((p * s : Nat) : Int)) := by
  rw [List.getElem_eq_iff]
  unfold sqS
  rw [List.getElem?_append_right (by simp)]
  simp [hp]
theorem sq_ffit {W s c f p : Nat} (h1 : W < (c + 1) * s) (h2 : p ≠ 0 → (p + 1) * s ≤ W) : ffit (W : Int) ((s : Int), (s : Int)) (sqS s c f p) = f := by
  by_cases hp : p = 0
  · subst hp
    have : (sqS s c f 0).length = f := by rw [sqS_len]; simp
    conv => rhs; rw [← this]
    refine ffit_none fun j hj => ?_
    rw [sq_at (by omega)]
    exact sq_fit_no h1
  · have hl : f < (sqS s c f p).length := by rw [sqS_len, if_neg hp]; omega
    refine ffit_step hl (fun j hj hjf => ?_) ?_
    · rw [sq_at hjf]; exact sq_fit_no h1
    · rw [sq_last hp]; exact sq_fit_yes (h2 hp)
theorem sq_set {s c f p : Nat} (hp : p ≠ 0) : (sqS s c f p).set f (((f * s : Nat) : Int), (s : Int), (((p + 1) * s : Nat) : Int)) = sqS s c f (p + 1) := by
  unfold sqS
  rw [List.set_append_right _ _ (by simp)]
  simp [hp]
theorem sq_all (W H s c R : Nat) (hs : 0 < s) (hs2 : s ≤ 4096) (hc : 0 < c) (hw1 : c * s ≤ W) (hw2 : W < (c + 1) * s) (hh1 : R * s ≤ H) (hh2 : H < (R + 1) * s) :
    ∀ (k f p : Nat), p < c → f ≤ R → (p ≠ 0 → f < R) → (packL (W : Int) (H : Int) (sqS s c f p) (sqB s f p) (List.replicate k ((s : Int), (s : Int)))).isSome = decide (f * c + p + k ≤ c * R)
  | 0, f, p, hp, hf, hpf => by
    have h1 : f * c ≤ c * R := by rw [Nat.mul_comm f c]; exact Nat.mul_le_mul_left _ hf
    have h2 : p ≠ 0 → f * c + c ≤ c * R := fun h => by
      have := Nat.mul_le_mul_left c (hpf h)
      rw [Nat.mul_succ] at this
      rw [Nat.mul_comm f c]; exact this
    have h3 : f * c + p + 0 ≤ c * R := by
      by_cases hz : p = 0
      · omega
      · have := h2 hz; omega
    rw [List.replicate_zero]
    simp only [packL, Option.isSome_some]
    exact (decide_eq_true h3).symm
  | k + 1, f, p, hp, hf, hpf => by
    have ih := sq_all W H s c R hs hs2 hc hw1 hw2 hh1 hh2 k
    have hsW : s ≤ W := Nat.le_trans (Nat.le_mul_of_pos_left s hc) hw1
    have hok : okP (W : Int) ((s : Int), (s : Int)) = true := by simp [okP, sideB]; omega
    have hpW : p ≠ 0 → (p + 1) * s ≤ W := fun _ => Nat.le_trans (Nat.mul_le_mul_right s hp) hw1
    have hff := sq_ffit (f := f) hw2 hpW
    rw [List.replicate_succ]
    by_cases hz : p = 0
    · subst hz
      have hlen : (sqS s c f 0).length = f := by rw [sqS_len]; simp
      by_cases hfR : f < R
      · have hb : sqB s f 0 + (s : Int) ≤ (H : Int) := by
          have h1 : (f + 1) * s ≤ H := Nat.le_trans (Nat.mul_le_mul_right s hfR) hh1
          rw [Nat.add_mul] at h1
          simp only [sqB, if_true, Nat.add_zero]
          generalize f * s = x at *
          omega
        rw [packL_new hok (by rw [hff, hlen]) hb, Option.isSome_map]
        have e1 : sqS s c f 0 ++ [takeS (sqB s f 0, (s : Int), 0) ((s : Int), (s : Int))] = sqS s c f 1 := by
          simp [sqS, takeS, sqB]
        have e2 : sqB s f 0 + (s : Int) = sqB s f 1 := by
          simp only [sqB, if_true, Nat.add_zero]
          rw [if_neg (by omega), Nat.add_mul]
          omega
        show (packL (W : Int) (H : Int) (sqS s c f 0 ++ [takeS (sqB s f 0, (s : Int), 0) ((s : Int), (s : Int))]) (sqB s f 0 + (s : Int)) (List.replicate k ((s : Int), (s : Int)))).isSome = _
        rw [e1, e2]
        by_cases hc1 : c = 1
        · subst hc1
          rw [sqS_full s 1 f (by omega), show sqB s f 1 = sqB s (f + 1) 0 by simp [sqB], ih (f + 1) 0 (by omega) hfR (by omega)]
          congr 1
          simp only [Nat.mul_one, Nat.one_mul]
          apply propext
          omega
        · rw [ih f 1 (by omega) hf (fun _ => hfR)]
          congr 1
          apply propext
          omega
      · obtain rfl : f = R := by omega
        have hb : ¬ sqB s f 0 + (s : Int) ≤ (H : Int) := by
          rw [Nat.add_mul] at hh2
          simp only [sqB, if_true, Nat.add_zero]
          generalize f * s = x at *
          omega
        rw [packL_full hok (by rw [hff, hlen]) hb]
        have h9 : ¬ f * c + 0 + (k + 1) ≤ c * f := by rw [Nat.mul_comm c f]; omega
        simp only [Option.isSome_none]
        exact (decide_eq_false h9).symm
    · have hfR := hpf hz
      have hlt : f < (sqS s c f p).length := by rw [sqS_len, if_neg hz]; omega
      rw [packL_fit hok hlt hff, Option.isSome_map, sq_last hz]
      have e1 : takeS (((f * s : Nat) : Int), (s : Int), ((p * s : Nat) : Int)) ((s : Int), (s : Int)) = (((f * s : Nat) : Int), (s : Int), (((p + 1) * s : Nat) : Int)) := by
        simp only [takeS, Nat.add_mul, Nat.one_mul]
        simp
      rw [e1, sq_set hz]
      by_cases hpc : p + 1 = c
      · rw [hpc, sqS_full s c f (by omega), show sqB s f p = sqB s (f + 1) 0 by simp [sqB, hz], ih (f + 1) 0 (by omega) hfR (by omega)]
        congr 1
        apply propext
        rw [Nat.add_mul]
        omega
      · rw [show sqB s f p = sqB s f (p + 1) by simp [sqB, hz], ih f (p + 1) (by omega) hf (fun _ => hfR)]
        congr 1
        apply propext
        omega
end Go.Proofs.Ytciaidlkhlgflaa
