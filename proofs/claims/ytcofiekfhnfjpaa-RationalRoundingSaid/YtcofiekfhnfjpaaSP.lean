
import Derived.Test.YtcofiekfhnfjpaaSO
import Derived.Test.YtcofiekfhnfjpaaSN
import Derived.Deep.CutRange
namespace Go.Proofs.Ytcofiekfhnfjpaa
open Go.RowKit
set_option linter.unusedVariables false
set_option linter.unusedSimpArgs false
attribute [local go_sem ↓] Go.wp_at_zero Go.wp_at_succ
attribute [local go_sem] rhoF_tmp rhoF_const rhoF_global rhoF_func
attribute [local go_sem] qV iV
attribute [local go_sem] qE
theorem isrow_le {k : IntKind} {w : World} {a : Option Addr} {l c : Nat} {z : List Int} (h : IsRow k w a l c z) : l ≤ 9223372036854775807 := by
  rcases h with ⟨_, h, _⟩ | ⟨ad, _, h1, h2, _⟩
  · omega
  · unfold maxLen at h2; omega
theorem Qv_int (z : Int) : Qv (decide (z < 0)) (canon z.natAbs) false (canon 1) = (z : Rat) := by
  unfold Qv
  rw [zv_canon, show zv false (valD (canon 1)) = 1 from by rw [valD_canon]; rfl]
  exact Rat.num_divInt_den (z : Rat)
theorem Qv_one : Qv false (canon 1) false (canon 1) = 1 := Qv_int 1
theorem fl_bd (q : Rat) : q.floor.natAbs ≤ q.num.natAbs := by
  rw [Rat.floor_def]
  exact Int.natAbs_ediv_le_natAbs _ _
theorem cl_bd (q : Rat) : (clR q).natAbs ≤ q.num.natAbs := by
  unfold clR
  rw [Int.natAbs_neg]
  have := fl_bd (-q)
  rwa [Rat.neg_num, Int.natAbs_neg] at this
theorem rd_bd (q : Rat) : (rdR q).natAbs ≤ q.num.natAbs + 1 := by
  obtain ⟨h1, h2⟩ := rdR_bd q
  have hd : 1 ≤ (q.den : Int) := by have := q.den_pos; omega
  generalize (q.den : Int) = d at *
  generalize rdR q = r at *
  generalize q.num = n at *
  rcases Int.lt_or_le (n.natAbs + 1 : Int) r with h | h
  · have h3 : (n.natAbs + 2 : Int) * d ≤ r * d := Int.mul_le_mul_of_nonneg_right (by omega) (by omega)
    have h4 : (n.natAbs : Int) * 1 ≤ n.natAbs * d := Int.mul_le_mul_of_nonneg_left hd (by omega)
    rw [Int.add_mul] at h3
    omega
  · rcases Int.lt_or_le r (-(n.natAbs + 1 : Int)) with h' | h'
    · have h3 : r * d ≤ (-(n.natAbs + 2 : Int)) * d := Int.mul_le_mul_of_nonneg_right (by omega) (by omega)
      have h4 : (n.natAbs : Int) * 1 ≤ n.natAbs * d := Int.mul_le_mul_of_nonneg_left hd (by omega)
      rw [Int.neg_mul, Int.add_mul] at h3
      omega
    · omega
theorem sz_int {z : Int} {n : Nat} (h : z.natAbs < pw n) (hn : 1 ≤ n) : Sz (z : Rat) n := ⟨h, Nat.lt_of_lt_of_le (show 1 < pw 1 by decide) (pw_mono hn)⟩
set_option maxRecDepth 50000 in
theorem lr_any (s t : Bool) (a b : Option Addr) (c d : Nat) (l k : List (BitVec 32)) (w : World) (ha : Rw w a l) (hb : Rw w b k) (cap_a : l.length ≤ c) (cap_b : k.length ≤ d) (m0 : l.length ≤ 9223372036854775807) (m1 : k.length ≤ 9223372036854775807) :
    Calls Try.prog 5 #[.agg #[.bool s, .slice a l.length c, .bool t, .slice b k.length d]] w fun e w' => e = .returned (.bool true) ∧ Below w.heap.size w w' := by
  have hA := fun W => small_any s t a b l.length c k.length d W m0 m1
  by_cases h1 : l.length ≤ 40 ∧ k.length ≤ 40
  case neg =>
    simp only [show (decide (l.length ≤ 40) && decide (k.length ≤ 40)) = false by simp; omega] at hA
    exact lr_no s t a b c d l k w hA
  simp only [show (decide (l.length ≤ 40) && decide (k.length ≤ 40)) = true by simp; omega] at hA
  have la1 : l.length ≤ 100000 := by omega
  have la2 : k.length ≤ 100000 := by omega
  have ya : Sz (Qv s l t k) 40 := sz_Qv h1.1 h1.2 (by omega)
  have hF := fun W p q => floor_q s t a b c d l k W la1 la2 cap_a cap_b p q
  have hC := fun W p q => ceil_q s t a b c d l k W la1 la2 cap_a cap_b p q
  have hR := fun W p q => round_q s t a b c d l k W la1 la2 cap_a cap_b p q
  have gF := fun W p q => rfloor_q s t a b c d l k W la1 la2 p q
  have gC := fun W p q => rceil_q s t a b c d l k W la1 la2 p q
  have gR := fun W p q => rround_q s t a b c d l k W la1 la2 p q
  obtain ⟨pa, ea⟩ : ∃ q, Qv s l t k = q := ⟨_, rfl⟩
  rw [ea] at ya hF hC hR gF gC gR
  have pm : pw 40 + 1 ≤ pw 41 := by decide
  have nF : pa.floor.natAbs < pw 41 := Nat.lt_of_le_of_lt (fl_bd pa) (Nat.lt_of_lt_of_le ya.1 (by omega))
  have nC : (clR pa).natAbs < pw 41 := Nat.lt_of_le_of_lt (cl_bd pa) (Nat.lt_of_lt_of_le ya.1 (by omega))
  have nR : (rdR pa).natAbs < pw 41 := by have := rd_bd pa; have := ya.1; omega
  have lF : (canon pa.floor.natAbs).length ≤ 100000 := Nat.le_trans (canon_flen _ _ nF) (by decide)
  have lC : (canon (clR pa).natAbs).length ≤ 100000 := Nat.le_trans (canon_flen _ _ nC) (by decide)
  have lR : (canon (rdR pa).natAbs).length ≤ 100000 := Nat.le_trans (canon_flen _ _ nR) (by decide)
  have lU : (canon 1).length ≤ 100000 := Nat.le_trans (canon_flen 1 1 (by decide)) (by decide)
  have ef := Qv_int pa.floor
  have eg := Qv_int (clR pa)
  have er := Qv_int (rdR pa)
  have e1 := Qv_one
  have sR := sz_int nR (by omega)
  have sA := sz_add ya ya
  have sB := sz_add sR sR
  have s1 : Sz (1 : Rat) 1 := ⟨by decide, by decide⟩
  have zA : Sz (pa + pa) 1000 := sA.mono (by omega)
  have zB : Sz (((rdR pa : Int) : Rat) + ((rdR pa : Int) : Rat)) 1000 := sB.mono (by omega)
  have zD : Sz ((pa + pa) - (((rdR pa : Int) : Rat) + ((rdR pa : Int) : Rat))) 1000 := (sz_sub sA sB).mono (by omega)
  have zE : Sz (((clR pa : Int) : Rat) - ((pa.floor : Int) : Rat)) 1000 := (sz_sub (sz_int nC (by omega)) (sz_int nF (by omega))).mono (by omega)
  have zN : Sz (-1) 1000 := (sz_neg s1).mono (by omega)
  obtain ⟨b1, b2, b3⟩ := clR_bd pa
  obtain ⟨b4, b5⟩ := near_le pa
  exact lr_w s t a b c d l k w ha hb cap_a cap_b (decide (pa.floor < 0)) (decide (clR pa < 0)) (decide (rdR pa < 0)) (qS (pa + pa)) (qS (((rdR pa : Int) : Rat) + ((rdR pa : Int) : Rat))) (qS ((pa + pa) - (((rdR pa : Int) : Rat) + ((rdR pa : Int) : Rat)))) (qS (((clR pa : Int) : Rat) - ((pa.floor : Int) : Rat))) (qS (-1)) (canon pa.floor.natAbs) (canon (clR pa).natAbs) (canon (rdR pa).natAbs) (canon 1) (qX (pa + pa)) (qY (pa + pa)) (qX (((rdR pa : Int) : Rat) + ((rdR pa : Int) : Rat))) (qY (((rdR pa : Int) : Rat) + ((rdR pa : Int) : Rat))) (qX ((pa + pa) - (((rdR pa : Int) : Rat) + ((rdR pa : Int) : Rat)))) (qY ((pa + pa) - (((rdR pa : Int) : Rat) + ((rdR pa : Int) : Rat)))) (qX (((clR pa : Int) : Rat) - ((pa.floor : Int) : Rat))) (qY (((clR pa : Int) : Rat) - ((pa.floor : Int) : Rat))) (qX (-1)) (qY (-1))
    (cmpR ((pa.floor : Int) : Rat) pa) (cmpR ((clR pa : Int) : Rat) pa) (cmpR (((clR pa : Int) : Rat) - ((pa.floor : Int) : Rat)) 1) (cmpR ((pa + pa) - (((rdR pa : Int) : Rat) + ((rdR pa : Int) : Rat))) 1) (cmpR ((pa + pa) - (((rdR pa : Int) : Rat) + ((rdR pa : Int) : Rat))) (-1))
    (decide_eq_true (Int.not_lt.1 fun h => b2 ((cmpR_gt _ _).1 h))) (decide_eq_true (Int.not_lt.1 fun h => b1 ((cmpR_lt _ _).1 h))) (decide_eq_true (Int.not_lt.1 fun h => b3 ((cmpR_gt _ _).1 h))) (decide_eq_true (Int.not_lt.1 fun h => Rat.not_lt.2 b4 ((cmpR_gt _ _).1 h))) (decide_eq_true (Int.not_lt.1 fun h => Rat.not_lt.2 b5 ((cmpR_lt _ _).1 h)))
    (by omega) (by omega) (by omega) hA hF hC hR gF gC gR (fun W => orfri_q W) (add_h ea ea rfl la1 la2 la1 la2) (add_h er er rfl lR lU lR lU) (sub_h (Qv_of _) (Qv_of _) rfl (len1 zA) (len2 zA) (len1 zB) (len2 zB)) (cmp_h (r := 0) ef ea lF lU la1 la2) (cmp_h (r := 0) eg ea lC lU la1 la2) (sub_h eg ef rfl lC lU lF lU) (cmp_h (r := 0) (Qv_of _) e1 (len1 zE) (len2 zE) lU lU) (cmp_h (r := 0) (Qv_of _) e1 (len1 zD) (len2 zD) lU lU) (neg_h e1 rfl lU lU) (cmp_h (r := 0) (Qv_of _) (Qv_of _) (len1 zD) (len2 zD) (len1 zN) (len2 zN))
end Go.Proofs.Ytcofiekfhnfjpaa
