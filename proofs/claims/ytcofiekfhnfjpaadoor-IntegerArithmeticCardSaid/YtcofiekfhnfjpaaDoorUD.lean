
import Derived.Test.YtcofiekfhnfjpaaDoorUC
import Derived.Laws.BitsAllLaws
import Derived.Deep.CutRange
import Derived.Test.YtcofiekfhnfjpaaDoorU9
import Derived.Test.YtcofiekfhnfjpaaDoorUA
import Derived.Test.YtcofiekfhnfjpaaDoorU6
import Derived.Laws.CopyOwn
import Derived.BigQuiet
import Derived.Deep.RegionHeld3
/- ZA -/
namespace Go.Proofs.YtcofiekfhnfjpaaDoor
open Go.RowKit
set_option linter.unusedVariables false
set_option linter.unusedSimpArgs false
attribute [local go_sem ↓] Go.wp_at_zero Go.wp_at_succ
end Go.Proofs.YtcofiekfhnfjpaaDoor

/- ZB -/
namespace Go.Proofs.YtcofiekfhnfjpaaDoor
open Go.RowKit
set_option linter.unusedVariables false
set_option linter.unusedSimpArgs false
attribute [local go_sem ↓] Go.wp_at_zero Go.wp_at_succ
end Go.Proofs.YtcofiekfhnfjpaaDoor

/- ZC -/
namespace Go.Proofs.YtcofiekfhnfjpaaDoor
open Go.RowKit
set_option linter.unusedVariables false
set_option linter.unusedSimpArgs false
attribute [local go_sem ↓] Go.wp_at_zero Go.wp_at_succ
/-- The decimal text of an integer. -/
def zfmt (z : Int) : List UInt8 := if z < 0 then 45 :: Lib.decDigits z.natAbs else Lib.decDigits z.natAbs
theorem pw_ten (n : Nat) : pw n ≤ 10 ^ (10 * n) := by
  induction n with
  | zero => rw [pw_zero]; exact Nat.le_refl _
  | succ n ih =>
    rw [pw_succ, show 10 * (n + 1) = 10 * n + 10 by omega, Nat.pow_add]
    exact Nat.mul_le_mul ih (by decide)
theorem dec_fit (l : List (BitVec 32)) (n : Nat) (h : l.length ≤ n) : (Lib.decDigits (valD l)).length ≤ 10 * n + 1 := by
  refine dec_len_le _ _ (Nat.lt_of_lt_of_le (valD_lt l) (Nat.le_trans (pw_ten _) (Nat.pow_le_pow_right (by decide) (by omega)))) (by omega)
theorem zfmt_neg {z : Int} (h : z < 0) : zfmt z = 45 :: Lib.decDigits z.natAbs := by unfold zfmt; rw [if_pos h]
theorem zfmt_pos {z : Int} (h : ¬ z < 0) : zfmt z = Lib.decDigits z.natAbs := by unfold zfmt; rw [if_neg h]
theorem zfmt_any (s : Bool) (a : Option Addr) (n c : Nat) (l : List (BitVec 32)) (w : World) (hn : l.length = n) (hc : n ≤ c) (hl : n ≤ 90000) (hr : Rw w a l) (hT : Tb w) :
    Calls Tryd.prog 26 #[.agg #[.bool s, .slice a n c]] w fun e w' => e = .returned (sv (zfmt (zv s (valD l)))) ∧ Below w.heap.size w w' := by
  subst hn
  obtain ⟨z, hz⟩ : ∃ z, zv s (valD l) = z := ⟨_, rfl⟩
  have HZ := Lib.hid hz
  have HA : Hid (valD l = z.natAbs) := by show _ = _; rw [← hz, zv_abs]
  have hfit := dec_fit l 90000 hl
  rw [HA.out] at hfit
  rw [hz]
  obtain ⟨D, hD⟩ : ∃ D : ByteArray, (⟨(Lib.decDigits z.natAbs).toArray⟩ : ByteArray) = D := ⟨_, rfl⟩
  have HD := Lib.hid hD
  have hsz : D.size ≤ 900001 := by rw [← hD]; show (Lib.decDigits z.natAbs).toArray.size ≤ _; simpa using hfit
  obtain ⟨n1, hn1⟩ : ∃ n, D.size = n := ⟨_, rfl⟩
  rw [hn1] at hsz
  obtain ⟨sx, hsx⟩ : ∃ v, z.sign = v := ⟨_, rfl⟩
  have Hsx := Lib.hid hsx
  have hneg : decide (sx < 0) = decide (z < 0) := by
    rw [← hsx, sign_ite, Bool.eq_iff_iff, decide_eq_true_iff, decide_eq_true_iff]
    split
    · omega
    · split <;> omega
  have HSV : Hid (sgV s (valD l) = sx) := by show _ = _; rw [sgV_sign, hz]; exact hsx
  have hb1 := Below.alloc (Below.refl w.heap.size w) (Nat.le_refl _) (.cells #[Value.bool s, Value.slice a l.length c] 24)
  have hz1 := hb1.size
  by_cases h : z < 0
  · have HV := Lib.hid (zfmt_neg h)
    rw [decide_eq_true h] at hneg
    clear h hz hD hsx hfit
    go_enter Tryd.func26, Tryd.ntmps26
    go_wp2_with (first | (go_at_call 27; (with_reducible refine (zdec_any s a _ c l _ rfl hc (by omega) (hr.below hb1)).mono ?_); rintro e w1 ⟨a1, c1, l1, rfl, i1, j1, v1, hr1, hc1⟩; have hv1 := Lib.hid v1; clear v1; have hT1 := (hT.below hb1).below hc1; have hbw1 := hb1.trans (hc1.mono hz1); have hz2 := hbw1.size; clear hc1; rw [HZ.out, Hsx.out]) | (go_at_call 45; (with_reducible refine (nformat_any a1 _ c1 l1 _ rfl i1 (by omega) hr1 hT1).mono ?_); rintro e w2 ⟨rfl, hc2⟩; have hbw2 := hbw1.trans (hc2.mono hz2); clear hc2; rw [hv1.out, HA.out]; unfold sv; rw [HD.out]))
    go_ret
    exact ⟨by rw [HV.out, ← HD.out]; rfl, hbw2⟩
  · have HV := Lib.hid (zfmt_pos h)
    rw [decide_eq_false h] at hneg
    clear h hz hD hsx hfit
    go_enter Tryd.func26, Tryd.ntmps26
    go_wp2_with (first | (go_at_call 27; (with_reducible refine (zdec_any s a _ c l _ rfl hc (by omega) (hr.below hb1)).mono ?_); rintro e w1 ⟨a1, c1, l1, rfl, i1, j1, v1, hr1, hc1⟩; have hv1 := Lib.hid v1; clear v1; have hT1 := (hT.below hb1).below hc1; have hbw1 := hb1.trans (hc1.mono hz1); have hz2 := hbw1.size; clear hc1; rw [HZ.out, Hsx.out]) | (go_at_call 45; (with_reducible refine (nformat_any a1 _ c1 l1 _ rfl i1 (by omega) hr1 hT1).mono ?_); rintro e w2 ⟨rfl, hc2⟩; have hbw2 := hbw1.trans (hc2.mono hz2); clear hc2; rw [hv1.out, HA.out]; unfold sv; rw [HD.out]))
    go_ret
    exact ⟨by rw [HV.out, ← HD.out]; rfl, hbw2⟩
end Go.Proofs.YtcofiekfhnfjpaaDoor

/- ZD -/
namespace Go.Proofs.YtcofiekfhnfjpaaDoor
open Go.RowKit
set_option linter.unusedVariables false
set_option linter.unusedSimpArgs false
attribute [local go_sem ↓] Go.wp_at_zero Go.wp_at_succ
def pneg (l : List UInt8) : Bool := decide (l.head? = some 45)
def pdig (l : List UInt8) : List UInt8 := if pneg l then l.drop 1 else l
theorem pre_neg (l : List UInt8) : Lib.hasPrefix l [45] = pneg l := by
  cases l with
  | nil => rfl
  | cons c t => simp [Lib.hasPrefix, pneg, List.isPrefixOf]; rw [Bool.eq_iff_iff]; simp; exact eq_comm
theorem pre_dig (l : List UInt8) : Lib.trimPrefix l [45] = pdig l := by
  unfold Lib.trimPrefix pdig
  rw [pre_neg]; rfl
/-- What a parser answers that refuses. -/
def errV (e : Int) : Value := .tuple #[.agg #[.bool false, .slice none 0 0], .int .i64 e]
/-- What a parser answers that reads an integer. -/
def okV (z : Int) (a : Option Addr) (c : Nat) : Value := .tuple #[.agg #[.bool (decide (z < 0)), .slice a (canon z.natAbs).length c], .int .i64 0]
theorem zv_sign_ok {ν : Bool} {V : Nat} (h : ¬ (ν = true ∧ V = 0)) : decide (zv ν V < 0) = ν := by
  rw [zv_neg]
  cases ν
  · rfl
  · have : 0 < V := by
      rcases Nat.eq_zero_or_pos V with h0 | h0
      · exact absurd ⟨rfl, h0⟩ h
      · exact h0
    simp [this]
theorem zparse_zero (S : ByteArray) (l : List UInt8) (w : World) (hS : S.data.toList = l) (hb : isDec (pdig l) = true) (h2 : (pdig l).length ≤ 1000) (hv : pneg l = true ∧ dv (pdig l) = 0) :
    Calls Tryd.prog 25 #[.string S] w fun e w' => e = .returned (errV 3) ∧ Below w.heap.size w w' := by
  have hsz := str_size hS
  obtain ⟨ν, hν⟩ : ∃ b, pneg l = b := ⟨_, rfl⟩
  obtain ⟨d, hd⟩ : ∃ d, pdig l = d := ⟨_, rfl⟩
  rw [hν, hd] at hv
  rw [hd] at hb h2
  have HB := Lib.hid hb
  have H2 := Lib.hid h2
  obtain ⟨D, hD⟩ : ∃ D : ByteArray, (⟨(Lib.trimPrefix S.data.toList (⟨#[45]⟩ : ByteArray).data.toList).toArray⟩ : ByteArray) = D := ⟨_, rfl⟩
  have HD := Lib.hid hD
  have HDl : Hid (D.data.toList = d) := by show _ = _; rw [← hD, hS]; show (Lib.trimPrefix l [45]) = d; rw [pre_dig, hd]
  have HP : Hid (Lib.hasPrefix S.data.toList (⟨#[45]⟩ : ByteArray).data.toList = ν) := by show _ = _; rw [hS]; show Lib.hasPrefix l [45] = ν; rw [pre_neg, hν]
  have hb0 := Below.alloc (Below.refl w.heap.size w) (Nat.le_refl _) (.cells #[Value.bool false, Value.slice none 0 0] 24)
  have hz0 := hb0.size
  obtain ⟨V, hV⟩ : ∃ V, dv d = V := ⟨_, rfl⟩
  obtain ⟨T, hT⟩ := ex_canon V
  have HT : Hid (canon (dv d) = T) := by show _ = _; rw [hV]; exact hT.out
  obtain ⟨rfl, hv0⟩ := hv
  have hTl : T.length = 0 := by rw [← hT.out, ← hV, hv0, canon_zero]; rfl
  have hTb : ((T.length : Int) == 0) = true := by rw [hTl]; rfl
  have hTb2 : (T.length == 0) = true := by rw [hTl]; rfl
  clear hb hν hd hD hV hv0
  go_enter Tryd.func25, Tryd.ntmps25
  go_wp2_with (first | (go_at_call 43; (with_reducible refine (Tryd.strings_CutPrefix S ⟨#[45]⟩ _).mono ?_); rintro e w1 ⟨rfl, rfl⟩; rw [HD.out, HP.out]) | (go_at_call 44; (with_reducible refine (nparse_ok D d _ HDl.out HB.out H2.out).mono ?_); rintro e w2 ⟨a2, c2, rfl, hca, hra, hc2⟩; have k2_r_0 : w2.cell? ⟨w.heap.size, 0, none⟩ = some (.bool false) := bcs hc2 (by first | with_reducible assumption | go_simp); have g2_r_0 : w2.frozen? ⟨w.heap.size, 0, none⟩ = false := bfs hc2 (v := .bool false) (by first | with_reducible assumption | go_simp) (by first | with_reducible assumption | go_simp); have k2_r_1 : w2.cell? ⟨w.heap.size, 1, none⟩ = some (.slice none 0 0) := bcs hc2 (by first | with_reducible assumption | go_simp); have g2_r_1 : w2.frozen? ⟨w.heap.size, 1, none⟩ = false := bfs hc2 (v := .slice none 0 0) (by first | with_reducible assumption | go_simp) (by first | with_reducible assumption | go_simp); have x2_r : ¬ w.heap.size = w2.heap.size := qne k2_r_0; have y2_r : ¬ w2.heap.size = w.heap.size := fun h => qne k2_r_0 h.symm; have q2_r : w.heap.size < w2.heap.size := qlt k2_r_0; have hbw := hb0.trans (hc2.mono hz0); clear hc2; rw [HT.out] at hca hra; rw [HT.out]))
  refine bodyPost_ret (v := .tuple #[.agg #[.bool false, .slice none 0 0], .int .i64 3]) (by simp [results, Tryd.results25, go_sem, *]) rfl ?_
  exact ⟨rfl, by first | exact hbw | exact ((hbw.setCell (by simp) _).setCell (by simp) _)⟩
theorem zparse_ok (S : ByteArray) (l : List UInt8) (w : World) (hS : S.data.toList = l) (hb : isDec (pdig l) = true) (h2 : (pdig l).length ≤ 1000) (hv : ¬ (pneg l = true ∧ dv (pdig l) = 0)) :
    Calls Tryd.prog 25 #[.string S] w fun e w' => ∃ a c, e = .returned (okV (zv (pneg l) (dv (pdig l))) a c) ∧ (canon (zv (pneg l) (dv (pdig l))).natAbs).length ≤ c ∧ RwF w.heap.size w' a (canon (zv (pneg l) (dv (pdig l))).natAbs) ∧ Below w.heap.size w w' := by
  have hsz := str_size hS
  obtain ⟨ν, hν⟩ : ∃ b, pneg l = b := ⟨_, rfl⟩
  obtain ⟨d, hd⟩ : ∃ d, pdig l = d := ⟨_, rfl⟩
  rw [hν, hd] at hv
  rw [hd] at hb h2
  have HB := Lib.hid hb
  have H2 := Lib.hid h2
  obtain ⟨D, hD⟩ : ∃ D : ByteArray, (⟨(Lib.trimPrefix S.data.toList (⟨#[45]⟩ : ByteArray).data.toList).toArray⟩ : ByteArray) = D := ⟨_, rfl⟩
  have HD := Lib.hid hD
  have HDl : Hid (D.data.toList = d) := by show _ = _; rw [← hD, hS]; show (Lib.trimPrefix l [45]) = d; rw [pre_dig, hd]
  have HP : Hid (Lib.hasPrefix S.data.toList (⟨#[45]⟩ : ByteArray).data.toList = ν) := by show _ = _; rw [hS]; show Lib.hasPrefix l [45] = ν; rw [pre_neg, hν]
  have hb0 := Below.alloc (Below.refl w.heap.size w) (Nat.le_refl _) (.cells #[Value.bool false, Value.slice none 0 0] 24)
  have hz0 := hb0.size
  obtain ⟨V, hV⟩ : ∃ V, dv d = V := ⟨_, rfl⟩
  obtain ⟨T, hT⟩ := ex_canon V
  have HT : Hid (canon (dv d) = T) := by show _ = _; rw [hV]; exact hT.out
  have hsg := Lib.hid (zv_sign_ok (ν := ν) (V := V) (by rw [← hV]; exact hv))
  have hab := Lib.hid (zv_abs ν V)
  rw [hν, hd, hV]
  have hTb : (ν = false) ∨ (ν = true ∧ ((T.length : Int) == 0) = false ∧ (T.length == 0) = false) := by
    cases hνe : ν
    · exact .inl rfl
    · refine .inr ⟨rfl, ?_⟩
      have hp : 0 < V := by
        rcases Nat.eq_zero_or_pos V with h0 | h0
        · exact absurd ⟨hνe, by rw [hV]; exact h0⟩ hv
        · exact h0
      have : 0 < T.length := by rw [← hT.out]; exact canon_len_pos hp
      exact ⟨by rw [beq_eq_false_iff_ne]; omega, by rw [beq_eq_false_iff_ne]; omega⟩
  clear hb hν hd hD hV hv
  rcases hTb with rfl | ⟨rfl, hT1, hT2⟩
  · go_enter Tryd.func25, Tryd.ntmps25
    go_wp2_with (first | (go_at_call 43; (with_reducible refine (Tryd.strings_CutPrefix S ⟨#[45]⟩ _).mono ?_); rintro e w1 ⟨rfl, rfl⟩; rw [HD.out, HP.out]) | (go_at_call 44; (with_reducible refine (nparse_ok D d _ HDl.out HB.out H2.out).mono ?_); rintro e w2 ⟨a2, c2, rfl, hca, hra, hc2⟩; have k2_r_0 : w2.cell? ⟨w.heap.size, 0, none⟩ = some (.bool false) := bcs hc2 (by first | with_reducible assumption | go_simp); have g2_r_0 : w2.frozen? ⟨w.heap.size, 0, none⟩ = false := bfs hc2 (v := .bool false) (by first | with_reducible assumption | go_simp) (by first | with_reducible assumption | go_simp); have k2_r_1 : w2.cell? ⟨w.heap.size, 1, none⟩ = some (.slice none 0 0) := bcs hc2 (by first | with_reducible assumption | go_simp); have g2_r_1 : w2.frozen? ⟨w.heap.size, 1, none⟩ = false := bfs hc2 (v := .slice none 0 0) (by first | with_reducible assumption | go_simp) (by first | with_reducible assumption | go_simp); have x2_r : ¬ w.heap.size = w2.heap.size := qne k2_r_0; have y2_r : ¬ w2.heap.size = w.heap.size := fun h => qne k2_r_0 h.symm; have q2_r : w.heap.size < w2.heap.size := qlt k2_r_0; have hbw := hb0.trans (hc2.mono hz0); clear hc2; rw [HT.out] at hca hra; rw [HT.out]))
    refine bodyPost_ret (v := .tuple #[.agg #[.bool false, .slice a2 T.length c2], .int .i64 0]) (by simp [results, Tryd.results25, go_sem, *]) rfl ?_
    refine ⟨a2, c2, ?_, ?_, ?_, ((hbw.setCell (by simp) _).setCell (by simp) _)⟩
    · rw [okV, hsg.out, hab.out, hT.out]
    · rw [hab.out, hT.out]; exact hca
    · rw [hab.out, hT.out]; exact ((hra.set (by simp) 0 _).set (by simp) 1 _).mono (by simp)
  · go_enter Tryd.func25, Tryd.ntmps25
    go_wp2_with (first | (go_at_call 43; (with_reducible refine (Tryd.strings_CutPrefix S ⟨#[45]⟩ _).mono ?_); rintro e w1 ⟨rfl, rfl⟩; rw [HD.out, HP.out]) | (go_at_call 44; (with_reducible refine (nparse_ok D d _ HDl.out HB.out H2.out).mono ?_); rintro e w2 ⟨a2, c2, rfl, hca, hra, hc2⟩; have k2_r_0 : w2.cell? ⟨w.heap.size, 0, none⟩ = some (.bool false) := bcs hc2 (by first | with_reducible assumption | go_simp); have g2_r_0 : w2.frozen? ⟨w.heap.size, 0, none⟩ = false := bfs hc2 (v := .bool false) (by first | with_reducible assumption | go_simp) (by first | with_reducible assumption | go_simp); have k2_r_1 : w2.cell? ⟨w.heap.size, 1, none⟩ = some (.slice none 0 0) := bcs hc2 (by first | with_reducible assumption | go_simp); have g2_r_1 : w2.frozen? ⟨w.heap.size, 1, none⟩ = false := bfs hc2 (v := .slice none 0 0) (by first | with_reducible assumption | go_simp) (by first | with_reducible assumption | go_simp); have x2_r : ¬ w.heap.size = w2.heap.size := qne k2_r_0; have y2_r : ¬ w2.heap.size = w.heap.size := fun h => qne k2_r_0 h.symm; have q2_r : w.heap.size < w2.heap.size := qlt k2_r_0; have hbw := hb0.trans (hc2.mono hz0); clear hc2; rw [HT.out] at hca hra; rw [HT.out]))
    refine bodyPost_ret (v := .tuple #[.agg #[.bool true, .slice a2 T.length c2], .int .i64 0]) (by simp [results, Tryd.results25, go_sem, *]) rfl ?_
    refine ⟨a2, c2, ?_, ?_, ?_, ((hbw.setCell (by simp) _).setCell (by simp) _)⟩
    · rw [okV, hsg.out, hab.out, hT.out]
    · rw [hab.out, hT.out]; exact hca
    · rw [hab.out, hT.out]; exact ((hra.set (by simp) 0 _).set (by simp) 1 _).mono (by simp)
end Go.Proofs.YtcofiekfhnfjpaaDoor

/- ZE -/
namespace Go.Proofs.YtcofiekfhnfjpaaDoor
open Go.RowKit
set_option linter.unusedVariables false
set_option linter.unusedSimpArgs false
attribute [local go_sem ↓] Go.wp_at_zero Go.wp_at_succ
end Go.Proofs.YtcofiekfhnfjpaaDoor

/- ZF -/
namespace Go.Proofs.YtcofiekfhnfjpaaDoor
open Go.RowKit
set_option linter.unusedVariables false
set_option linter.unusedSimpArgs false
attribute [local go_sem ↓] Go.wp_at_zero Go.wp_at_succ
/-- The slice of integers at block g holds magnitudes of these lengths. -/
def HoldsN (w : World) (g : Nat) (ns : List Nat) : Prop := ∀ i (h : i < ns.length), ∃ s a d, w.cell? ⟨g, i * 2, none⟩ = some (.bool s) ∧ w.cell? ⟨g, i * 2 + 1, none⟩ = some (.slice a ns[i] d)
theorem HoldsN.below {w w' : World} {g : Nat} {ns : List Nat} (h : HoldsN w g ns) (hb : Below w.heap.size w w') : HoldsN w' g ns := fun i hi => by
  obtain ⟨s, a, d, h1, h2⟩ := h i hi
  exact ⟨s, a, d, bcs hb h1, bcs hb h2⟩
def FeR (w : World) (ns : List Nat) (k : Int) (i : Value) (wr : World) : Prop := ∃ p : Nat, p ≤ ns.length ∧ i = .int .i64 p ∧ Hid (∀ n ∈ ns.take p, (n : Int) ≤ k) ∧ Below w.heap.size w wr
set_option maxRecDepth 50000 in
theorem few_any (g N c : Nat) (ns : List Nat) (k : Int) (w : World) (hN : ns.length = N) (hm : N ≤ 1000) (hh : HoldsN w g ns) :
    Calls Tryd.prog 5 #[.int .i64 k, .slice (some ⟨g, 0, none⟩) N c] w fun e w' => e = .returned (.bool (decide (∀ n ∈ ns, (n : Int) ≤ k))) ∧ Below w.heap.size w w' := by
  subst hN
  go_enter Tryd.func5, Tryd.ntmps5
  go_wp2
  go_loopw [6, 9] (fun _ i wr => FeR w ns k i wr) (fun _ i _ => ns.length - (intOf i).toNat)
  case atStart => exact ⟨0, Nat.zero_le _, rfl, by rw [List.take_zero]; exact fun _ h => absurd h (by simp), Below.refl _ _⟩
  case round =>
    obtain ⟨p, hp, rfl, hall, hb⟩ := hrel
    by_cases hlt : p < ns.length
    · obtain ⟨s, a, d, h1, h2⟩ := hh.below hb p hlt
      obtain ⟨n, hn⟩ : ∃ n, ns[p] = n := ⟨_, rfl⟩
      rw [hn] at h2
      by_cases hk : (n : Int) ≤ k
      · have h3 : decide (k < (n : Int)) = false := by rw [decide_eq_false_iff_not]; omega
        have hall2 : Hid (∀ n ∈ ns.take (p + 1), (n : Int) ≤ k) := by
          intro m hm
          rw [List.take_succ_eq_append_getElem hlt, List.mem_append] at hm
          rcases hm with hm | hm
          · exact hall.out m hm
          · rw [List.mem_singleton] at hm; rw [hm, hn]; exact hk
        go_wp2
        go_roundw
        case rel => exact ⟨p + 1, hlt, by go_num, hall2, hb.alloc hb.size _⟩
        case measure => simp [intOf] <;> omega
      · have h3 : decide (k < (n : Int)) = true := by rw [decide_eq_true_iff]; omega
        have hv : Hid (decide (∀ n ∈ ns, (n : Int) ≤ k) = false) := decide_eq_false fun h => hk (by rw [← hn]; exact h _ (List.getElem_mem hlt))
        go_wp2
        go_ret
        exact ⟨by rw [hv.out]; rfl, hb.alloc hb.size _⟩
    · have h1 : decide ((p : Int) < (ns.length : Int)) = false := by rw [decide_eq_false_iff_not]; omega
      have h2 : decide (p < ns.length) = false := by rw [decide_eq_false_iff_not]; omega
      have hv : Hid (decide (∀ n ∈ ns, (n : Int) ≤ k) = true) := decide_eq_true fun m hm => hall.out m (by rw [List.take_of_length_le (by omega)]; exact hm)
      go_wp2
      go_ret
      exact ⟨by rw [hv.out]; rfl, hb⟩
end Go.Proofs.YtcofiekfhnfjpaaDoor

/- ZG -/
namespace Go.Proofs.YtcofiekfhnfjpaaDoor
open Go.RowKit
set_option linter.unusedVariables false
set_option linter.unusedSimpArgs false
attribute [local go_sem ↓] Go.wp_at_zero Go.wp_at_succ
/-- A copy with a sentinel behind its end. -/
theorem own_any (s : Bool) (a : Option Addr) (n c : Nat) (l : List (BitVec 32)) (w : World) (hn : l.length = n) (hl : n ≤ 1000000) (hr : Rw w a l) :
    Calls Tryd.prog 7 #[.agg #[.bool s, .slice a n c]] w fun e w' => ∃ g c', e = .returned (.agg #[.bool s, .slice (some ⟨g, 0, none⟩) n c']) ∧ n + 1 ≤ c' ∧ Rw w' (some ⟨g, 0, none⟩) (l ++ [77#32]) ∧ Below w.heap.size w w' := by
  subst hn
  obtain ⟨i0, hi, hz0, hz1, hz2⟩ := info_parts info32
  have hb0 := (Below.alloc (Below.refl w.heap.size w) (Nat.le_refl _) (.cells #[Value.bool s, Value.slice a l.length c] 24)).alloc (by simp) (.cells #[Value.bool false, Value.slice none 0 0] 24)
  have hz0' := hb0.size
  have hr2 := (hr.below hb0).below (Below.alloc (Below.refl ((w.alloc (.cells #[Value.bool s, Value.slice a l.length c] 24)).alloc (.cells #[Value.bool false, Value.slice none 0 0] 24)).heap.size ((w.alloc (.cells #[Value.bool s, Value.slice a l.length c] 24)).alloc (.cells #[Value.bool false, Value.slice none 0 0] 24))) (Nat.le_refl _) (.cells #[] 32))
  have hem := Below.alloc (Below.refl ((w.alloc (.cells #[Value.bool s, Value.slice a l.length c] 24)).alloc (.cells #[Value.bool false, Value.slice none 0 0] 24)).heap.size ((w.alloc (.cells #[Value.bool s, Value.slice a l.length c] 24)).alloc (.cells #[Value.bool false, Value.slice none 0 0] 24))) (Nat.le_refl _) (.cells #[] 32)
  have hzl : decide (((l.length : Int) + 1) < 0) = false := by rw [decide_eq_false_iff_not]; omega
  go_enter Tryd.func7, Tryd.ntmps7
  go_wp2_with (first
    | (at_builtin; go_loud (refine wpList_append_rd _ rfl _ _ _ rfl ((w.alloc (.cells #[Value.bool s, Value.slice a l.length c] 24)).alloc (.cells #[Value.bool false, Value.slice none 0 0] 24)).heap.size 32 i0 (.int .u32 0) 4 Tryd.underlying22 hi hz0 hz1 hz2 rfl (.slice (some ⟨((w.alloc (.cells #[Value.bool s, Value.slice a l.length c] 24)).alloc (.cells #[Value.bool false, Value.slice none 0 0] 24)).heap.size, 0, none⟩) 0 0) 0 [] (by go_simp) (fresh_row32 _) a l.length c (bv32 l) rfl (bv32_len _) hr2.vals (bv32_one _) (by unfold maxLen; omega) (by omega) hem.size ?_; intro v' w2 hown2 hg2 _; have hb2 := hem.grown hg2 hem.size (fun q hq => by cases hq; simp); rw [Nat.zero_add, List.nil_append] at hown2; have k2_p_0 : w2.cell? ⟨w.heap.size, 0, none⟩ = some (.bool s) := bcs hb2 (by first | with_reducible assumption | go_simp); have g2_p_0 : w2.frozen? ⟨w.heap.size, 0, none⟩ = false := bfs hb2 (v := .bool s) (by first | with_reducible assumption | go_simp) (by first | with_reducible assumption | go_simp); have k2_p_1 : w2.cell? ⟨w.heap.size, 1, none⟩ = some (.slice a l.length c) := bcs hb2 (by first | with_reducible assumption | go_simp); have g2_p_1 : w2.frozen? ⟨w.heap.size, 1, none⟩ = false := bfs hb2 (v := .slice a l.length c) (by first | with_reducible assumption | go_simp) (by first | with_reducible assumption | go_simp); have x2_p : ¬ w.heap.size = w2.heap.size := qne k2_p_0; have y2_p : ¬ w2.heap.size = w.heap.size := fun h => qne k2_p_0 h.symm; have q2_p : w.heap.size < w2.heap.size := qlt k2_p_0; have k2_r_0 : w2.cell? ⟨(w.heap.size + 1), 0, none⟩ = some (.bool false) := bcs hb2 (by first | with_reducible assumption | go_simp); have g2_r_0 : w2.frozen? ⟨(w.heap.size + 1), 0, none⟩ = false := bfs hb2 (v := .bool false) (by first | with_reducible assumption | go_simp) (by first | with_reducible assumption | go_simp); have k2_r_1 : w2.cell? ⟨(w.heap.size + 1), 1, none⟩ = some (.slice none 0 0) := bcs hb2 (by first | with_reducible assumption | go_simp); have g2_r_1 : w2.frozen? ⟨(w.heap.size + 1), 1, none⟩ = false := bfs hb2 (v := .slice none 0 0) (by first | with_reducible assumption | go_simp) (by first | with_reducible assumption | go_simp); have x2_r : ¬ (w.heap.size + 1) = w2.heap.size := qne k2_r_0; have y2_r : ¬ w2.heap.size = (w.heap.size + 1) := fun h => qne k2_r_0 h.symm; have q2_r : (w.heap.size + 1) < w2.heap.size := qlt k2_r_0; clear hg2))
    | (at_builtin; go_loud (refine wpList_snoc32 (w := ((w.alloc (.cells #[Value.bool s, Value.slice a l.length c] 24)).alloc (.cells #[Value.bool false, Value.slice none 0 0] 24))) rfl _ _ rfl hown2 hb2 (by omega) 77#32 rfl rfl rfl ?_; intro v3 w3 hown3 hb3; obtain ⟨a3, c3, rfl⟩ := own_slice hown3; obtain ⟨g, rfl, hg⟩ := own_form hown3 (by omega); have k3_p_0 : w3.cell? ⟨w.heap.size, 0, none⟩ = some (.bool s) := bcs hb3 (by first | with_reducible assumption | go_simp); have g3_p_0 : w3.frozen? ⟨w.heap.size, 0, none⟩ = false := bfs hb3 (v := .bool s) (by first | with_reducible assumption | go_simp) (by first | with_reducible assumption | go_simp); have k3_p_1 : w3.cell? ⟨w.heap.size, 1, none⟩ = some (.slice a l.length c) := bcs hb3 (by first | with_reducible assumption | go_simp); have g3_p_1 : w3.frozen? ⟨w.heap.size, 1, none⟩ = false := bfs hb3 (v := .slice a l.length c) (by first | with_reducible assumption | go_simp) (by first | with_reducible assumption | go_simp); have x3_p : ¬ w.heap.size = w3.heap.size := qne k3_p_0; have y3_p : ¬ w3.heap.size = w.heap.size := fun h => qne k3_p_0 h.symm; have q3_p : w.heap.size < w3.heap.size := qlt k3_p_0; have k3_r_0 : w3.cell? ⟨(w.heap.size + 1), 0, none⟩ = some (.bool false) := bcs hb3 (by first | with_reducible assumption | go_simp); have g3_r_0 : w3.frozen? ⟨(w.heap.size + 1), 0, none⟩ = false := bfs hb3 (v := .bool false) (by first | with_reducible assumption | go_simp) (by first | with_reducible assumption | go_simp); have k3_r_1 : w3.cell? ⟨(w.heap.size + 1), 1, none⟩ = some (.slice none 0 0) := bcs hb3 (by first | with_reducible assumption | go_simp); have g3_r_1 : w3.frozen? ⟨(w.heap.size + 1), 1, none⟩ = false := bfs hb3 (v := .slice none 0 0) (by first | with_reducible assumption | go_simp) (by first | with_reducible assumption | go_simp); have x3_r : ¬ (w.heap.size + 1) = w3.heap.size := qne k3_r_0; have y3_r : ¬ w3.heap.size = (w.heap.size + 1) := fun h => qne k3_r_0 h.symm; have q3_r : (w.heap.size + 1) < w3.heap.size := qlt k3_r_0; have hcap := own_cap hown3; have hcap2 : l.length ≤ c3 := by omega)))
  have hrow := fun v0 v1 => Rw.of_own (own_set_other (own_set_other hown3 (b := w.heap.size + 1) (by simp) 0 v0) (b := w.heap.size + 1) (by simp) 1 v1)
  have hbw := hb0.trans (hb3.mono hz0')
  have hz3 := hbw.size
  clear hown3 hb3 hb2 hown2
  go_region
  go_wp2
  refine bodyPost_ret (v := .agg #[.bool s, .slice (some ⟨g, 0, none⟩) l.length c3]) (by simp [results, Tryd.results7, go_sem, *]) rfl ?_
  exact ⟨g, c3, rfl, hcap, (hrow _ _).below (Below.refl _ _).drew, ((hbw.setCell (by simp) _).setCell (by simp) _).drew⟩
theorem same_yes (s t : Bool) (a b : Option Addr) (n c m d : Nat) (l k : List (BitVec 32)) (w : World) (hn : l.length = n) (hm : k.length = m) (hl : n ≤ 1000000) (hr : Rw w a l) (hs : Rw w b k) (hst : s = t) (hlk : l = k) :
    Calls Tryd.prog 18 #[.agg #[.bool s, .slice a n c], .agg #[.bool t, .slice b m d]] w fun e w' => e = .returned (.bool true) ∧ Below w.heap.size w w' := by
  subst hst hlk hn
  subst hm
  have hb0 := (Below.alloc (Below.refl w.heap.size w) (Nat.le_refl _) (.cells #[Value.bool s, Value.slice a l.length c] 24)).alloc (by simp) (.cells #[Value.bool s, Value.slice b l.length d] 24)
  go_enter Tryd.func18, Tryd.ntmps18
  go_wp2
  go_loopw [5, 23] (fun _ i wr => ∃ k : Nat, k ≤ l.length ∧ i = .int .i64 k ∧ ∃ n, wr = ((w.alloc (.cells #[Value.bool s, Value.slice a l.length c] 24)).alloc (.cells #[Value.bool s, Value.slice b l.length d] 24)).drewN n) (fun _ i _ => l.length - (intOf i).toNat)
  case atStart => exact ⟨0, Nat.zero_le _, rfl, 0, rfl⟩
  case round =>
    obtain ⟨k, hk, rfl, n, rfl⟩ := hrel
    by_cases hlt : k < l.length
    · obtain ⟨ad, rfl, hc⟩ := hr.below hb0 k hlt
      obtain ⟨bd, rfl, hd⟩ := hs.below hb0 k hlt
      go_wp2
      go_quiet (fail)
      go_wp2
      go_roundw
      case rel => exact ⟨k + 1, by omega, by go_num, _, rfl⟩
      case measure => simp [intOf] <;> omega
    · have h1 : decide ((k : Int) < (l.length : Int)) = false := by rw [decide_eq_false_iff_not]; omega
      have h2 : decide (k < l.length) = false := by rw [decide_eq_false_iff_not]; omega
      go_wp2
      go_ret
      exact ⟨rfl, below_drewN hb0 _⟩
theorem add0 (g k : Nat) : (⟨g, 0, none⟩ : Addr).add k = ⟨g, k, none⟩ := by
  unfold Addr.add
  split <;> simp_all
set_option maxRecDepth 50000 in
theorem kept_any (s : Bool) (g : Nat) (b : Option Addr) (n c d : Nat) (l : List (BitVec 32)) (w : World) (hn : l.length = n) (hl : n ≤ 1000000) (hc : n + 1 ≤ c) (hr : Rw w (some ⟨g, 0, none⟩) (l ++ [77#32])) (hs : Rw w b l) :
    Calls Tryd.prog 19 #[.agg #[.bool s, .slice (some ⟨g, 0, none⟩) n c], .agg #[.bool s, .slice b n d]] w fun e w' => e = .returned (.bool true) ∧ Below w.heap.size w w' := by
  subst hn
  have hb0 := (Below.alloc (Below.refl w.heap.size w) (Nat.le_refl _) (.cells #[Value.bool s, Value.slice (some ⟨g, 0, none⟩) l.length c] 24)).alloc (by simp) (.cells #[Value.bool s, Value.slice b l.length d] 24)
  have hrl : Rw w (some ⟨g, 0, none⟩) l := by
    have := hr.take l.length
    rwa [List.take_left] at this
  obtain ⟨ad, e, h77⟩ := hr l.length (by simp)
  cases e
  rw [List.getElem_append_right (Nat.le_refl _), add0] at h77
  simp at h77
  have h77a := bcs hb0 h77
  obtain ⟨n1, hn1⟩ : ∃ n1, l.length + 1 = n1 := ⟨_, rfl⟩
  have hw : IntKind.i64.wrap ((l.length : Int) + 1) = (n1 : Int) := by rw [IntKind.wrap_i64]; omega
  have hx1 : n1 ≤ c := by omega
  have hx2 : l.length < n1 := by omega
  clear hn1
  have hb1 := hb0.drew
  have hz1 := hb1.size
  go_enter Tryd.func19, Tryd.ntmps19
  go_wp2
  go_region_held3 (fun w' => w'.cell? ⟨w.heap.size, 0, none⟩ = some (.bool s) ∧ w'.cell? ⟨w.heap.size, 1, none⟩ = some (.slice (some ⟨g, 0, none⟩) l.length c) ∧ w'.cell? ⟨(w.heap.size + 1), 0, none⟩ = some (.bool s) ∧ w'.cell? ⟨(w.heap.size + 1), 1, none⟩ = some (.slice b l.length d) ∧ w'.cell? ⟨g, l.length, none⟩ = some (.int .u32 77)) (first | exact ⟨k2_p_0, k2_p_1, k2_q_0, k2_q_1, h772⟩ | (refine ⟨?_, ?_, ?_, ?_, ?_⟩ <;> go_simp)) ((
    (go_at_call 18; (with_reducible refine (same_yes s s _ b _ c _ d l l _ rfl rfl hl (hrl.below hb1) (hs.below hb1) rfl rfl).mono ?_); rintro e w2 ⟨rfl, hc2⟩; have k2_p_0 : w2.cell? ⟨w.heap.size, 0, none⟩ = some (.bool s) := bcs hc2 (by first | with_reducible assumption | go_simp); have g2_p_0 : w2.frozen? ⟨w.heap.size, 0, none⟩ = false := bfs hc2 (v := .bool s) (by first | with_reducible assumption | go_simp) (by first | with_reducible assumption | go_simp); have k2_p_1 : w2.cell? ⟨w.heap.size, 1, none⟩ = some (.slice (some ⟨g, 0, none⟩) l.length c) := bcs hc2 (by first | with_reducible assumption | go_simp); have g2_p_1 : w2.frozen? ⟨w.heap.size, 1, none⟩ = false := bfs hc2 (v := .slice (some ⟨g, 0, none⟩) l.length c) (by first | with_reducible assumption | go_simp) (by first | with_reducible assumption | go_simp); have x2_p : ¬ w.heap.size = w2.heap.size := qne k2_p_0; have y2_p : ¬ w2.heap.size = w.heap.size := fun h => qne k2_p_0 h.symm; have q2_p : w.heap.size < w2.heap.size := qlt k2_p_0; have k2_q_0 : w2.cell? ⟨(w.heap.size + 1), 0, none⟩ = some (.bool s) := bcs hc2 (by first | with_reducible assumption | go_simp); have g2_q_0 : w2.frozen? ⟨(w.heap.size + 1), 0, none⟩ = false := bfs hc2 (v := .bool s) (by first | with_reducible assumption | go_simp) (by first | with_reducible assumption | go_simp); have k2_q_1 : w2.cell? ⟨(w.heap.size + 1), 1, none⟩ = some (.slice b l.length d) := bcs hc2 (by first | with_reducible assumption | go_simp); have g2_q_1 : w2.frozen? ⟨(w.heap.size + 1), 1, none⟩ = false := bfs hc2 (v := .slice b l.length d) (by first | with_reducible assumption | go_simp) (by first | with_reducible assumption | go_simp); have x2_q : ¬ (w.heap.size + 1) = w2.heap.size := qne k2_q_0; have y2_q : ¬ w2.heap.size = (w.heap.size + 1) := fun h => qne k2_q_0 h.symm; have q2_q : (w.heap.size + 1) < w2.heap.size := qlt k2_q_0; have h772 := bcs hc2 (b := g) (o := l.length) (v := .int .u32 77) (by first | with_reducible assumption | go_simp); have hbw := hb1.trans (hc2.mono hz1))))
  go_wp2
  go_ret
  exact ⟨rfl, hbw⟩
end Go.Proofs.YtcofiekfhnfjpaaDoor

