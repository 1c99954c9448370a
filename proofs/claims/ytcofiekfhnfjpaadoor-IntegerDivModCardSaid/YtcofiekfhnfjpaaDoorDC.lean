
import Derived.Test.YtcofiekfhnfjpaaDoorDB
namespace Go.Proofs.YtcofiekfhnfjpaaDoor
open Go.RowKit
set_option linter.unusedVariables false
set_option linter.unusedSimpArgs false
attribute [local go_sem ↓] Go.wp_at_zero Go.wp_at_succ
attribute [local go_sem] rhoF_tmp rhoF_const rhoF_global rhoF_func
attribute [local go_sem] iV
theorem dm_eq (x y : Int) (hy : y ≠ 0) : x.fdiv y * y + x.fmod y = x := by
  rw [Int.mul_comm, Int.mul_fdiv_add_fmod]
theorem fm_lt (x y : Int) (hy : y ≠ 0) : (x.fmod y).natAbs < y.natAbs := by
  rcases Int.lt_or_gt_of_ne hy with h | h
  · have h1 := ((Int.fdiv_fmod_unique' (a := x) h).1 ⟨rfl, rfl⟩).2; omega
  · have h1 := ((Int.fdiv_fmod_unique (a := x) h).1 ⟨rfl, rfl⟩).2; omega
theorem dm_sign (x y : Int) (hy : y ≠ 0) (hr : x.fmod y ≠ 0) : (x.fmod y).sign = y.sign := by
  rcases Int.lt_or_gt_of_ne hy with h | h
  · have h1 := ((Int.fdiv_fmod_unique' (a := x) h).1 ⟨rfl, rfl⟩).2
    rw [Int.sign_eq_neg_one_of_neg h, Int.sign_eq_neg_one_of_neg (by omega)]
  · have h1 := ((Int.fdiv_fmod_unique (a := x) h).1 ⟨rfl, rfl⟩).2
    rw [Int.sign_eq_one_of_pos h, Int.sign_eq_one_of_pos (by omega)]
theorem dr_neg (x y : Int) : drZ (-x) (-y) = drZ x y := by
  unfold drZ
  rw [Int.natAbs_neg, Int.natAbs_neg]
  congr 1
  rw [Bool.eq_iff_iff, decide_eq_true_iff, decide_eq_true_iff, opp_iff, opp_iff]; omega
/- the rounded quotient is off by at most half of y -/
theorem dr_half (x y : Int) (hy : y ≠ 0) : 2 * (x - drZ x y * y).natAbs ≤ y.natAbs ∧ (2 * (x - drZ x y * y).natAbs = y.natAbs → x.natAbs < (drZ x y * y).natAbs) := by
  have hY : 0 < y.natAbs := by omega
  have hq := quo_num2 hY (Nat.div_add_mod x.natAbs y.natAbs) (Nat.mod_lt _ hY)
  have e := Nat.div_add_mod x.natAbs y.natAbs
  have hM := Nat.mod_lt x.natAbs hY
  unfold drZ
  rw [hq]
  generalize x.natAbs / y.natAbs = Q at *
  generalize x.natAbs % y.natAbs = M at *
  obtain ⟨T, hT⟩ : ∃ T, (if y.natAbs ≤ M * 2 then Q + 1 else Q) = T := ⟨_, rfl⟩
  rw [hT]
  -- |T*y| against |x|
  have hTy : y.natAbs * T = if y.natAbs ≤ M * 2 then x.natAbs + (y.natAbs - M) else x.natAbs - M := by
    rw [← hT]; split
    · rw [Nat.mul_add]; omega
    · omega
  have hTx : x.natAbs = 0 → T = 0 := by
    intro h0
    rw [h0] at e
    have h1 : M = 0 := by omega
    have h2 : Q = 0 := by
      rcases Nat.eq_zero_or_pos Q with h | h
      · exact h
      · have := Nat.mul_pos hY h; omega
    rw [← hT, h1, h2, if_neg (by omega)]
  have key : zv (decide (x.sign * y.sign < 0)) T * y = if x < 0 then -((y.natAbs * T : Nat) : Int) else ((y.natAbs * T : Nat) : Int) := by
    have e3 : y = (y.natAbs : Int) ∨ y = -(y.natAbs : Int) := by omega
    by_cases ho : x.sign * y.sign < 0
    · rw [decide_eq_true ho]
      rw [opp_iff] at ho
      rcases ho with ⟨h1, h2⟩ | ⟨h1, h2⟩
      · rw [if_pos h1, show zv true T = -(T : Int) from rfl, Int.neg_mul]
        rw [show (T : Int) * y = ((y.natAbs * T : Nat) : Int) by rw [Int.natCast_mul, Int.mul_comm]; congr 1; omega]
      · rw [if_neg (by omega), show zv true T = -(T : Int) from rfl, Int.neg_mul]
        rw [show (T : Int) * y = -((y.natAbs * T : Nat) : Int) by rw [Int.natCast_mul, Int.mul_comm, ← Int.neg_mul]; congr 1; omega]
        omega
    · rw [decide_eq_false ho, show zv false T = (T : Int) from rfl]
      rw [opp_iff] at ho
      by_cases hx : x < 0
      · rw [if_pos hx, show (T : Int) * y = -((y.natAbs * T : Nat) : Int) by rw [Int.natCast_mul, Int.mul_comm, ← Int.neg_mul]; congr 1; omega]
      · rw [if_neg hx]
        by_cases hx0 : x = 0
        · rw [hTx (by omega)]; simp
        · rw [show (T : Int) * y = ((y.natAbs * T : Nat) : Int) by rw [Int.natCast_mul, Int.mul_comm]; congr 1; omega]
  rw [key]
  clear key hTx hq hT
  generalize y.natAbs * T = P at *
  split at hTy <;> split <;> omega
theorem len_of {z : Int} (h : z.natAbs < pw 41) : (canon z.natAbs).length ≤ 400000 := Nat.le_trans ((canon_len_le _ _).2 h) (by decide)
theorem abs_le_mul (q y : Int) (hy : y ≠ 0) : q.natAbs ≤ (q * y).natAbs := by
  rw [Int.natAbs_mul]
  exact Nat.le_mul_of_pos_right _ (by omega)
set_option maxRecDepth 50000 in
set_option maxHeartbeats 4000000 in
theorem dm_any (s t : Bool) (a b : Option Addr) (c d : Nat) (l k : List (BitVec 32)) (w : World) (ha : Rw w a l) (hb : Rw w b k) (hN : Tb w) (cap_a : l.length ≤ c) (cap_b : k.length ≤ d) :
    Calls Tryd.prog 4 #[.agg #[.bool s, .slice a l.length c], .agg #[.bool t, .slice b k.length d]] w fun e w' => e = .returned (.bool true) ∧ Below w.heap.size w w' := by
  by_cases hf : l.length ≤ 40 ∧ k.length ≤ 40
  case neg =>
    exact dm_no s t a b c d l k w hN (by simp; omega)
  have hfew : decide (∀ n ∈ [l.length, k.length], (n : Int) ≤ 40) = true := by simp; omega
  have l1 : l.length ≤ 400000 := by omega
  have l2 : k.length ≤ 400000 := by omega
  have hl1 := l1
  have hl2 := l2
  by_cases hp : valD k = 0
  · have ey : zv t (valD k) = zv t (valD k) := rfl
    have ez : (zv t (valD k)).sign = 0 := by rw [hp, zv_zero]; rfl
    exact dm_zero s t a b c d l k w ha hb hN cap_a cap_b hfew (zdm_h0 hp l1 l2) (zdr_h0 hp l1 l2) (zsign_h ey ez l2)
  replace hp : 0 < valD k := by omega
  obtain ⟨x, ex⟩ : ∃ x, zv s (valD l) = x := ⟨_, rfl⟩
  obtain ⟨y, ey⟩ : ∃ y, zv t (valD k) = y := ⟨_, rfl⟩
  have bx : x.natAbs < pw 40 := by rw [← ex, zv_abs]; exact Nat.lt_of_lt_of_le (valD_lt l) (pw_mono hf.1)
  have bY : y.natAbs < pw 40 := by rw [← ey, zv_abs]; exact Nat.lt_of_lt_of_le (valD_lt k) (pw_mono hf.2)
  have hy : y ≠ 0 := by
    intro h0
    have := zv_abs t (valD k)
    rw [ey, h0] at this
    simp at this
    omega
  have pp : 4 * pw 40 ≤ pw 41 := by decide
  have hlen : ∀ z : Int, z.natAbs < pw 41 → (canon z.natAbs).length ≤ 400000 := fun z h => len_of h
  have k1 := dm_eq x y hy
  have k2 := fm_lt x y hy
  have k3 := dm_sign x y hy
  obtain ⟨k4, k5⟩ := dr_half x y hy
  have k6 := abs_le_mul (x.fdiv y) y hy
  have k7 := abs_le_mul (drZ x y) y hy
  have k8 : y.sign ≠ 0 := by rw [Ne, Int.sign_eq_zero_iff_zero]; exact hy
  have eV2 : drZ (-x) (-y) = drZ x y := dr_neg x y
  have hpN : 0 < valD (canon (-y).natAbs) := by rw [valD_canon]; omega
  clear hf l1 l2
  have l1 : l.length ≤ 400000 := hl1
  have l2 : k.length ≤ 400000 := hl2
  generalize pw 41 = C at *
  generalize pw 40 = B40 at *
  obtain ⟨q, eQ⟩ : ∃ q, x.fdiv y = q := ⟨_, rfl⟩
  obtain ⟨m, eM⟩ : ∃ m, x.fmod y = m := ⟨_, rfl⟩
  obtain ⟨v, eV⟩ : ∃ v, drZ x y = v := ⟨_, rfl⟩
  rw [eQ] at k1 k6
  rw [eM] at k1 k2 k3
  rw [eV] at k4 k5 k7 eV2
  obtain ⟨A, eA⟩ : ∃ A, q * y = A := ⟨_, rfl⟩
  obtain ⟨P, eP⟩ : ∃ P, v * y = P := ⟨_, rfl⟩
  rw [eA] at k1 k6
  rw [eP] at k4 k5 k7
  have nQ : (canon q.natAbs).length ≤ 400000 := hlen _ (by omega)
  have nM : (canon m.natAbs).length ≤ 400000 := hlen _ (by omega)
  have nV : (canon v.natAbs).length ≤ 400000 := hlen _ (by omega)
  have nA : (canon A.natAbs).length ≤ 400000 := hlen _ (by omega)
  have nU : (canon (A + m).natAbs).length ≤ 400000 := hlen _ (by omega)
  have nE : (canon (m.natAbs : Int).natAbs).length ≤ 400000 := hlen _ (by omega)
  have nB : (canon (y.natAbs : Int).natAbs).length ≤ 400000 := hlen _ (by omega)
  have nP : (canon P.natAbs).length ≤ 400000 := hlen _ (by omega)
  have nD : (canon (x - P).natAbs).length ≤ 400000 := hlen _ (by omega)
  have nO : (canon ((x - P).natAbs : Int).natAbs).length ≤ 400000 := hlen _ (by omega)
  have nT : (canon (((x - P).natAbs : Int) + ((x - P).natAbs : Int)).natAbs).length ≤ 400000 := hlen _ (by omega)
  have nNA : (canon (-x).natAbs).length ≤ 400000 := hlen _ (by omega)
  have nNB : (canon (-y).natAbs).length ≤ 400000 := hlen _ (by omega)
  have nF : (canon (P.natAbs : Int).natAbs).length ≤ 400000 := hlen _ (by omega)
  have nG : (canon (x.natAbs : Int).natAbs).length ≤ 400000 := hlen _ (by omega)
  have cQ := zv_canon q
  have cM := zv_canon m
  have cV := zv_canon v
  have cA := zv_canon A
  have cU := zv_canon (A + m)
  have cE := zv_canon (m.natAbs : Int)
  have cB := zv_canon (y.natAbs : Int)
  have cP := zv_canon P
  have cD := zv_canon (x - P)
  have cO := zv_canon ((x - P).natAbs : Int)
  have cT := zv_canon (((x - P).natAbs : Int) + ((x - P).natAbs : Int))
  have cNA := zv_canon (-x)
  have cNB := zv_canon (-y)
  have cF := zv_canon (P.natAbs : Int)
  have cG := zv_canon (x.natAbs : Int)
  have eg : y.sign = y.sign := rfl
  have eg2 : (x.fmod y).sign = (x.fmod y).sign := rfl
  have eU : A + m = A + m := rfl
  have eC1 : (A + m - x).sign = 0 := by rw [k1, Int.sub_self]; rfl
  have eE : (m.natAbs : Int) = (m.natAbs : Int) := rfl
  have eB : (y.natAbs : Int) = (y.natAbs : Int) := rfl
  have eC2 : ((m.natAbs : Int) - (y.natAbs : Int)).sign = -1 := Int.sign_eq_neg_one_of_neg (by omega)
  have eD : x - P = x - P := rfl
  have eO : ((x - P).natAbs : Int) = ((x - P).natAbs : Int) := rfl
  have eT : ((x - P).natAbs : Int) + ((x - P).natAbs : Int) = (((x - P).natAbs : Int) + ((x - P).natAbs : Int)) := rfl
  have eC : ((((x - P).natAbs : Int) + ((x - P).natAbs : Int)) - (y.natAbs : Int)).sign = ((((x - P).natAbs : Int) + ((x - P).natAbs : Int)) - (y.natAbs : Int)).sign := rfl
  have eNA : -x = -x := rfl
  have eNB : -y = -y := rfl
  have eF : (P.natAbs : Int) = (P.natAbs : Int) := rfl
  have eG : (x.natAbs : Int) = (x.natAbs : Int) := rfl
  have eC6 : ((P.natAbs : Int) - (x.natAbs : Int)).sign = ((P.natAbs : Int) - (x.natAbs : Int)).sign := rfl
  have eg : y.sign = y.sign := rfl
  have eg2 : m.sign = m.sign := rfl
  refine dm_w s t a b c d l k w ha hb hN cap_a cap_b hfew (decide (q < 0)) (decide (m < 0)) (decide (v < 0)) (decide (A < 0)) (decide ((A + m) < 0)) (decide ((m.natAbs : Int) < 0)) (decide ((y.natAbs : Int) < 0)) (decide (P < 0)) (decide ((x - P) < 0)) (decide (((x - P).natAbs : Int) < 0)) (decide ((((x - P).natAbs : Int) + ((x - P).natAbs : Int)) < 0)) (decide ((-x) < 0)) (decide ((-y) < 0)) (decide ((P.natAbs : Int) < 0)) (decide ((x.natAbs : Int) < 0)) (canon q.natAbs) (canon m.natAbs) (canon v.natAbs) (canon A.natAbs) (canon (A + m).natAbs) (canon (m.natAbs : Int).natAbs) (canon (y.natAbs : Int).natAbs) (canon P.natAbs) (canon (x - P).natAbs) (canon ((x - P).natAbs : Int).natAbs) (canon (((x - P).natAbs : Int) + ((x - P).natAbs : Int)).natAbs) (canon (-x).natAbs) (canon (-y).natAbs) (canon (P.natAbs : Int).natAbs) (canon (x.natAbs : Int).natAbs) y.sign m.sign ((((x - P).natAbs : Int) + ((x - P).natAbs : Int)) - (y.natAbs : Int)).sign ((P.natAbs : Int) - (x.natAbs : Int)).sign ?_ ?_ ?_ (zdm_h ex ey hp eQ eM l1 l2) (zdr_h ex ey hp eV l1 l2) (zsign_h ey eg l2) (zmul_h cQ ey eA nQ l2) (zadd_h cA cM eU nA nM) (zcmp_h cU ex eC1 nU l1) (zsize_h cM eE nM) (zsize_h ey eB l2) (zcmp_h cE cB eC2 nE nB) (zsign_h cM eg2 nM) (zmul_h cV ey eP nV l2) (zsub_h ex cP eD l1 nP) (zsize_h cD eO nD) (zadd_h cO cO eT nO nO) (zcmp_h cT cB eC nT nB) (zdr_h cNA cNB hpN eV2 nNA nNB) (zneg_h ex eNA l1) (zneg_h ey eNB l2) (zsame_h _ _ nV) (zsize_h cP eF nP) (zsize_h ex eG l1) (zcmp_h cF cG eC6 nF nG)
  · exact beq_false_of_ne k8
  · by_cases h0 : m = 0
    · exact .inl (by rw [h0]; rfl)
    · exact .inr ⟨by rw [bne_iff_ne, Ne, Int.sign_eq_zero_iff_zero]; exact h0, (k3 h0).symm⟩
  · by_cases h0 : 2 * (x - P).natAbs = y.natAbs
    · refine .inr ⟨?_, ?_⟩
      · rw [show (((x - P).natAbs : Int) + ((x - P).natAbs : Int)) - (y.natAbs : Int) = 0 by omega]; rfl
      · have := k5 h0
        rw [Int.sign_eq_one_of_pos (show 0 < (P.natAbs : Int) - (x.natAbs : Int) by omega)]; rfl
    · exact .inl (Int.sign_eq_neg_one_of_neg (by omega))
end Go.Proofs.YtcofiekfhnfjpaaDoor
