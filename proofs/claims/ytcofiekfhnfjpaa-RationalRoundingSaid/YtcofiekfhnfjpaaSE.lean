
import Derived.Test.YtcofiekfhnfjpaaSD
import Derived.Deep.CutRange
namespace Go.Proofs.Ytcofiekfhnfjpaa
open Go.RowKit
set_option linter.unusedVariables false
set_option linter.unusedSimpArgs false
attribute [local go_sem ↓] Go.wp_at_zero Go.wp_at_succ
attribute [local go_sem] rhoF_tmp rhoF_const rhoF_global rhoF_func
attribute [local go_sem] qV iV
attribute [local go_sem] qE
theorem cn1 : canon 1 = [1#32] := by
  have := canon_val [1#32]
  rw [show valD [1#32] = 1 from by simp [valD]] at this
  rw [this]; decide
theorem cn2 : canon 2 = [2#32] := by
  have := canon_val [2#32]
  rw [show valD [2#32] = 2 from by simp [valD]] at this
  rw [this]; decide
theorem cn3 : canon 3 = [3#32] := by
  have := canon_val [3#32]
  rw [show valD [3#32] = 3 from by simp [valD]] at this
  rw [this]; decide
theorem ansI_of {z : Int} {s : Bool} {X : List (BitVec 32)} {W : World} {e : Ending} {w' : World} (h : AnsI z W e w') (h1 : decide (z < 0) = s) (h2 : canon z.natAbs = X) : AnsR (iV s X) (OwP [X]) W e w' := by
  subst h1 h2; exact h
theorem six : (Rat.divInt 6 (-4)).num = -3 ∧ (Rat.divInt 6 (-4)).den = 2 := by decide
theorem six_q : qS (Rat.divInt 6 (-4)) = true ∧ qX (Rat.divInt 6 (-4)) = [3#32] ∧ qY (Rat.divInt 6 (-4)) = [2#32] := by
  unfold qS qX qY
  rw [six.1, six.2]
  exact ⟨rfl, cn3, cn2⟩
theorem want_q : Qv true [3#32] false [2#32] = Rat.divInt 6 (-4) := by
  have := Qv_of (Rat.divInt 6 (-4))
  rw [six_q.1, six_q.2.1, six_q.2.2] at this
  exact this
theorem smallL (q : Rat) (h : Sz q 10) : (qX q).length ≤ 10 ∧ (qY q).length ≤ 10 := sz_len h
theorem sz_c (x y : Int) (h : x.natAbs < 1000 ∧ y.natAbs < 1000) : Sz (Rat.divInt x y) 10 := by
  have e : (1000 : Nat) ≤ pw 10 := Nat.le_trans (show 1000 ≤ pw 1 by decide) (pw_mono (by omega))
  exact sz_of (by omega) (by omega) (by omega)
theorem half_rd : rdR (Rat.divInt 1 2) = 1 ∧ rdR (Rat.divInt (-1) 2) = -1 := by decide
theorem ex_any (w : World) : Calls Try.prog 9 #[] w fun e w' => e = .returned (.bool true) ∧ Below w.heap.size w w' := by
  obtain ⟨s1, x1, y1⟩ := six_q
  obtain ⟨l1, l2⟩ := smallL _ (sz_c 1 2 (by decide))
  obtain ⟨l3, l4⟩ := smallL _ (sz_c (-1) 2 (by decide))
  refine ex_w w _ _ _ _ _ _ _ _ _ _ _ _ (fun W => fri_q 6 (-4) W (by decide) (by decide) (by decide) (by decide) (by decide)) (fun W => fri_q 1 2 W (by decide) (by decide) (by decide) (by decide) (by decide)) (fun W => fri_q (-1) 2 W (by decide) (by decide) (by decide) (by decide) (by decide)) (fun W a b a2 b2 c d c2 d2 p q r z => ?_) (fun W a b c d h1 h2 p q => ?_) (fun W a b c d h1 h2 p q => ?_) (fun W s a b c d p q => sint_yes s a b 1 c d [1#32] W rfl (by decide) p q) (fun W => fromI_q 0 W (by decide) (by decide)) (fun W a b c d h1 h2 p q => ?_) (fun W => ?_) (fun W a b p q => ?_)
  · rw [s1, x1, y1]
    rw [x1] at p
    rw [y1] at q
    exact srat_yes true false a b a2 b2 c d c2 d2 [3#32] [2#32] W (by decide) (by decide) p q r z
  · have h := round_q (qS (Rat.divInt 1 2)) false a b c d (qX (Rat.divInt 1 2)) (qY (Rat.divInt 1 2)) W (by omega) (by omega) h1 h2 p q
    rw [Qv_of, half_rd.1] at h
    exact h.mono fun e w' h => ansI_of h (by decide) cn1
  · have h := round_q (qS (Rat.divInt (-1) 2)) false a b c d (qX (Rat.divInt (-1) 2)) (qY (Rat.divInt (-1) 2)) W (by omega) (by omega) h1 h2 p q
    rw [Qv_of, half_rd.2] at h
    exact h.mono fun e w' h => ansI_of h (by decide) cn1
  · have h := cmp_q false false (qS ((0 : Int) : Rat)) false none none a b 0 0 c d [] [] (qX ((0 : Int) : Rat)) (qY ((0 : Int) : Rat)) W (by decide) (by decide) (by rw [show qX ((0 : Int) : Rat) = [] from canon0]; decide) (by rw [show qY ((0 : Int) : Rat) = [1#32] from cn1]; decide) (by decide) (by decide) h1 h2 (Rw.nil _ _) (Rw.nil _ _) p q
    rw [Qv_of, show cmpR (Qv false [] false []) ((0 : Int) : Rat) = 0 from (cmpR_zero _ _).2 (by unfold Qv; rw [show zv false (valD []) = 0 from by simp [valD, zv], Rat.divInt_zero]; rfl)] at h
    exact h
  · have h := isn_q false false none none 0 0 [] [] W (by decide) (by decide) (by decide) (by decide) (Rw.nil _ _) (Rw.nil _ _)
    rw [show rnB false false [] [] = false from by unfold rnB; simp [valD, zv]] at h
    exact h
  · obtain ⟨C, hC, h⟩ := bl_q true false a b 1 1 [3#32] [2#32] W (by decide) (by decide) (by decide) (by decide) p q
    rw [want_q] at hC
    have : C = 2 := isB2_uniq hC ⟨2, 2, by rw [six.1]; exact ⟨by decide, fun h => (by cases h), fun _ => by decide⟩, by rw [six.2]; exact ⟨by decide, fun h => (by cases h), fun _ => by decide⟩, rfl⟩
    subst this
    exact h
end Go.Proofs.Ytcofiekfhnfjpaa
