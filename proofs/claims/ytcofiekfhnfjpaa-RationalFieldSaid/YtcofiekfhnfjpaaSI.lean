import Derived.Test.YtcofiekfhnfjpaaSG
import Derived.Test.YtcofiekfhnfjpaaSH
import Derived.Deep.CutRange
namespace Go.Proofs.Ytcofiekfhnfjpaa
open Go.RowKit
set_option linter.unusedVariables false
set_option linter.unusedSimpArgs false
attribute [local go_sem ↓] Go.wp_at_zero Go.wp_at_succ
attribute [local go_sem] rhoF_tmp rhoF_const rhoF_global rhoF_func
attribute [local go_sem] qV iV
attribute [local go_sem] qE
theorem isrow_le {k : IntKind} {w : World} {a : Option Addr} {l c : Nat} {z : List Int} (h : IsRow k w a l c z) : l ≤ 9223372036854775807 := by
  rcases h with ⟨_, h, _⟩ | ⟨ad, _, h1, h2, _⟩
  · omega
  · unfold maxLen at h2; omega
theorem cmp_eq (p q : Rat) : (cmpR p q == 0) = decide (p = q) := by
  rw [Bool.eq_iff_iff, beq_iff_eq, decide_eq_true_iff]
  exact cmpR_zero p q
theorem cmp_add (p q r : Rat) : decide (cmpR (p + r) (q + r) < 0) = decide (cmpR p q < 0) := by
  rw [decide_eq_decide, cmpR_lt, cmpR_lt]
  exact Rat.add_lt_add_right
set_option maxRecDepth 50000 in
theorem lf_any (s t s2 t2 s3 t3 : Bool) (a b a2 b2 a3 b3 : Option Addr) (c d c2 d2 c3 d3 : Nat) (l k l2 m2 l3 m3 : List (BitVec 32)) (w : World) (ha : Rw w a l) (hb : Rw w b k) (hu : Rw w a2 l2) (hv : Rw w b2 m2) (he : Rw w a3 l3) (hf : Rw w b3 m3) (cap_a : l.length ≤ c) (cap_b : k.length ≤ d) (cap_u : l2.length ≤ c2) (cap_v : m2.length ≤ d2) (cap_e : l3.length ≤ c3) (cap_f : m3.length ≤ d3) (m0 : l.length ≤ 9223372036854775807) (m1 : k.length ≤ 9223372036854775807) (m2_ : l2.length ≤ 9223372036854775807) (m3_ : m2.length ≤ 9223372036854775807) (m4 : l3.length ≤ 9223372036854775807) (m5 : m3.length ≤ 9223372036854775807) :
    Calls Try.prog 7 #[.agg #[.bool s, .slice a l.length c, .bool t, .slice b k.length d], .agg #[.bool s2, .slice a2 l2.length c2, .bool t2, .slice b2 m2.length d2], .agg #[.bool s3, .slice a3 l3.length c3, .bool t3, .slice b3 m3.length d3]] w fun e w' => e = .returned (.bool true) ∧ Below w.heap.size w w' := by
  have hA := fun W => small_any s t a b l.length c k.length d W m0 m1
  have hB := fun W => small_any s2 t2 a2 b2 l2.length c2 m2.length d2 W m2_ m3_
  have hC := fun W => small_any s3 t3 a3 b3 l3.length c3 m3.length d3 W m4 m5
  by_cases h1 : l.length ≤ 40 ∧ k.length ≤ 40
  case neg =>
    simp only [show (decide (l.length ≤ 40) && decide (k.length ≤ 40)) = false by simp; omega] at hA
    exact lf_no1 s t s2 t2 s3 t3 a b a2 b2 a3 b3 c d c2 d2 c3 d3 l k l2 m2 l3 m3 w hA
  simp only [show (decide (l.length ≤ 40) && decide (k.length ≤ 40)) = true by simp; omega] at hA
  by_cases h2 : l2.length ≤ 40 ∧ m2.length ≤ 40
  case neg =>
    simp only [show (decide (l2.length ≤ 40) && decide (m2.length ≤ 40)) = false by simp; omega] at hB
    exact lf_no2 s t s2 t2 s3 t3 a b a2 b2 a3 b3 c d c2 d2 c3 d3 l k l2 m2 l3 m3 w hA hB
  simp only [show (decide (l2.length ≤ 40) && decide (m2.length ≤ 40)) = true by simp; omega] at hB
  by_cases h3 : l3.length ≤ 40 ∧ m3.length ≤ 40
  case neg =>
    simp only [show (decide (l3.length ≤ 40) && decide (m3.length ≤ 40)) = false by simp; omega] at hC
    exact lf_no3 s t s2 t2 s3 t3 a b a2 b2 a3 b3 c d c2 d2 c3 d3 l k l2 m2 l3 m3 w hA hB hC
  simp only [show (decide (l3.length ≤ 40) && decide (m3.length ≤ 40)) = true by simp; omega] at hC
  have la1 : l.length ≤ 100000 := by omega
  have la2 : k.length ≤ 100000 := by omega
  have lb1 : l2.length ≤ 100000 := by omega
  have lb2 : m2.length ≤ 100000 := by omega
  have lc1 : l3.length ≤ 100000 := by omega
  have lc2 : m3.length ≤ 100000 := by omega
  have ya : Sz (Qv s l t k) 40 := sz_Qv h1.1 h1.2 (by omega)
  have yb : Sz (Qv s2 l2 t2 m2) 40 := sz_Qv h2.1 h2.2 (by omega)
  have yc : Sz (Qv s3 l3 t3 m3) 40 := sz_Qv h3.1 h3.2 (by omega)
  obtain ⟨pa, ea⟩ : ∃ q, Qv s l t k = q := ⟨_, rfl⟩
  obtain ⟨pb, eb⟩ : ∃ q, Qv s2 l2 t2 m2 = q := ⟨_, rfl⟩
  obtain ⟨pc, ec⟩ : ∃ q, Qv s3 l3 t3 m3 = q := ⟨_, rfl⟩
  rw [ea] at ya
  rw [eb] at yb
  rw [ec] at yc
  have zx : Sz pa 1000 := ya.mono (by omega)
  have zH : Sz pb 1000 := yb.mono (by omega)
  have yA := sz_add ya yb
  have yP := sz_mul ya yb (by omega)
  have yC := sz_add yb yc
  have yE := sz_mul yb yc (by omega)
  have zA : Sz (pa + pb) 1000 := yA.mono (by omega)
  have zP : Sz (pa * pb) 1000 := yP.mono (by omega)
  have zC : Sz (pb + pc) 1000 := yC.mono (by omega)
  have zE : Sz (pb * pc) 1000 := yE.mono (by omega)
  have zB : Sz (pa + pb + pc) 1000 := (sz_add yA yc).mono (by omega)
  have zD : Sz (pa * pb * pc) 1000 := (sz_mul yP yc (by omega)).mono (by omega)
  have zG : Sz ((pa + pb) * pc) 1000 := (sz_mul yA yc (by omega)).mono (by omega)
  have zJ : Sz (pa * pc) 1000 := (sz_mul ya yc (by omega)).mono (by omega)
  have zI : Sz (pa + pc) 1000 := (sz_add ya yc).mono (by omega)
  have eA : pa + pb = pa + pb := rfl
  have eP : pa * pb = pa * pb := rfl
  have ex : pa + pb - pb = pa := by rw [Rat.sub_eq_add_neg, Rat.add_assoc, Rat.add_neg_cancel, Rat.add_zero]
  have eA2 : pb + pa = pa + pb := Rat.add_comm _ _
  have eP2 : pb * pa = pa * pb := Rat.mul_comm _ _
  have eB : pa + pb + pc = pa + pb + pc := rfl
  have eC : pb + pc = pb + pc := rfl
  have eB2 : pa + (pb + pc) = pa + pb + pc := (Rat.add_assoc _ _ _).symm
  have eD : pa * pb * pc = pa * pb * pc := rfl
  have eE : pb * pc = pb * pc := rfl
  have eD2 : pa * (pb * pc) = pa * pb * pc := (Rat.mul_assoc _ _ _).symm
  have eG : (pa + pb) * pc = (pa + pb) * pc := rfl
  have eJ : pa * pc = pa * pc := rfl
  have eG2 : pa * pc + pb * pc = (pa + pb) * pc := (Rat.add_mul _ _ _).symm
  have eI : pa + pc = pa + pc := rfl
  have ez : cmpR pb 0 = cmpR pb 0 := rfl
  refine lf_w s t s2 t2 s3 t3 a b a2 b2 a3 b3 c d c2 d2 c3 d3 l k l2 m2 l3 m3 w ha hb hu hv he hf cap_a cap_b cap_u cap_v cap_e cap_f (qS pa) (qS (pa + pb)) (qS (pa * pb)) (qS (pa + pb + pc)) (qS (pb + pc)) (qS (pa * pb * pc)) (qS (pb * pc)) (qS ((pa + pb) * pc)) (qS (pa * pc)) (qS pb) (qS (pa + pc)) (qX pa) (qY pa) (qX (pa + pb)) (qY (pa + pb)) (qX (pa * pb)) (qY (pa * pb)) (qX (pa + pb + pc)) (qY (pa + pb + pc)) (qX (pb + pc)) (qY (pb + pc)) (qX (pa * pb * pc)) (qY (pa * pb * pc)) (qX (pb * pc)) (qY (pb * pc)) (qX ((pa + pb) * pc)) (qY ((pa + pb) * pc)) (qX (pa * pc)) (qY (pa * pc)) (qX pb) (qY pb) (qX (pa + pc)) (qY (pa + pc)) (cmpR pb 0) (cmpR pa pb) (cmpR (pa + pc) (pb + pc)) (decide (pa = pb)) (decide (cmpR pa pb < 0)) (cmp_eq _ _) rfl (cmp_add _ _ _) hA hB hC (norm_h ea la1 la2) (add_h ea eb eA la1 la2 lb1 lb2) (mul_h ea eb eP la1 la2 lb1 lb2) (isn_h zA) (isn_h zP) (sub_h (Qv_of _) eb ex (len1 zA) (len2 zA) lb1 lb2) (same_h zx) (add_h eb ea eA2 lb1 lb2 la1 la2) (same_h zA) (mul_h eb ea eP2 lb1 lb2 la1 la2) (same_h zP) (cmp_h0 eb ez lb1 lb2) (add_h (Qv_of _) ec eB (len1 zA) (len2 zA) lc1 lc2) (add_h eb ec eC lb1 lb2 lc1 lc2) (add_h ea (Qv_of _) eB2 la1 la2 (len1 zC) (len2 zC)) (same_h zB) (mul_h (Qv_of _) ec eD (len1 zP) (len2 zP) lc1 lc2) (mul_h eb ec eE lb1 lb2 lc1 lc2) (mul_h ea (Qv_of _) eD2 la1 la2 (len1 zE) (len2 zE)) (same_h zD) (mul_h (Qv_of _) ec eG (len1 zA) (len2 zA) lc1 lc2) (mul_h ea ec eJ la1 la2 lc1 lc2) (add_h (Qv_of _) (Qv_of _) eG2 (len1 zJ) (len2 zJ) (len1 zE) (len2 zE)) (same_h zG) (cmp_h (r := 0) ea eb la1 la2 lb1 lb2) (norm_h eb lb1 lb2) (same_d zx zH) (add_h ea ec eI la1 la2 lc1 lc2) (sumof_h eb ec eC lb1 lb2 lc1 lc2) (cmp_h (r := 0) (Qv_of _) (Qv_of _) (len1 zI) (len2 zI) (len1 zC) (len2 zC)) ?_
  by_cases hb0 : pb = 0
  · exact .inr ⟨quo_h0 (r := 0) (Qv_of _) eb hb0 (len1 zP) (len2 zP) lb1 lb2, (cmpR_zero _ _).2 hb0⟩
  · have eQ : pa * pb * pb⁻¹ = pa := by rw [Rat.mul_assoc, Rat.mul_inv_cancel _ hb0, Rat.mul_one]
    exact .inl ⟨quo_h (Qv_of _) eb hb0 eQ (len1 zP) (len2 zP) lb1 lb2, fun h => hb0 ((cmpR_zero _ _).1 h)⟩
end Go.Proofs.Ytcofiekfhnfjpaa
