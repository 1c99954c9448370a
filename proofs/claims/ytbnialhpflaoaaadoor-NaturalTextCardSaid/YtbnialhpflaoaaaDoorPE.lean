import Derived.Test.YtbnialhpflaoaaaDoorPD
namespace Go.Proofs.YtbnialhpflaoaaaDoor
open Go.RowKit
set_option linter.unusedVariables false
set_option linter.unusedSimpArgs false
theorem three_num (a p x y z : Nat) : a + p * x + p * 4294967296 * y + p * 4294967296 * 4294967296 * z = a + p * (x + 4294967296 * (z * 4294967296 + y)) := by grind
theorem two_num (a p r x y : Nat) : (a + p * x + p * 4294967296 * y) * r = a * r + r * p * (x + 4294967296 * y) := by grind
theorem two_subs (z lw bb : Nat) (hz : z < 4294967296) (hl : lw < 4294967296) (hb : bb ≤ 1) : ∃ d1 d2 : Nat, IntKind.u64.wrap ((z : Int) - (lw : Int)) = (d1 : Int) ∧ IntKind.u64.wrap ((d1 : Int) - (bb : Int)) = (d2 : Int) ∧ d2 < 18446744073709551616 ∧ d2 / 9223372036854775808 ≤ 1 ∧ d2 % 4294967296 + lw + bb = z + d2 / 9223372036854775808 * 4294967296 := by
  have hxq : ∃ d1 : Nat, IntKind.u64.wrap ((z : Int) - (lw : Int)) = (d1 : Int) ∧ ((d1 : Int) = (z : Int) - (lw : Int) ∨ (d1 : Int) = (z : Int) - (lw : Int) + 18446744073709551616 ∧ (z : Int) < lw) ∧ d1 < 18446744073709551616 := by
    rw [IntKind.wrap_u64]
    refine ⟨(((z : Int) - (lw : Int)) % 18446744073709551616).toNat, by omega, by omega, by omega⟩
  obtain ⟨d1, h1, h2, h3⟩ := hxq
  refine ⟨d1, (((d1 : Int) - (bb : Int)) % 18446744073709551616).toNat, h1, ?_, by omega, by omega, by omega⟩
  rw [IntKind.wrap_u64]
  omega
theorem sm_setup (Q0 D : List (BitVec 32)) (j m : Nat) (hD : D.length = m + 2) (hN : j + m + 3 ≤ Q0.length) (hlt : valD Q0 < valD D * pw (j + 1)) :
    ∃ lo dl, lo < pw (j + m) ∧ dl < pw (j + m) ∧ valD Q0 = lo + pw (j + m) * (digD Q0 (j + m) + 4294967296 * (digD Q0 (j + m + 2) * 4294967296 + digD Q0 (j + m + 1))) ∧ valD D * pw j = dl + pw (j + m) * (digD D m + 4294967296 * digD D (m + 1)) := by
  refine ⟨valD (Q0.take (j + m)), valD (D.take m) * pw j, ?_, ?_, ?_, ?_⟩
  · have h1 := valD_lt (Q0.take (j + m))
    rwa [List.length_take, Nat.min_eq_left (by omega)] at h1
  · have h1 := valD_lt (D.take m)
    rw [List.length_take, Nat.min_eq_left (by omega)] at h1
    rw [Nat.add_comm j m, pw_add]
    exact Nat.mul_lt_mul_of_pos_right h1 (pw_pos j)
  · have h1 := dig_split Q0 (j + m + 3)
    have h2 := valD_lt D
    have h3 : valD D * pw (j + 1) < pw (j + m + 3) := by
      rw [show j + m + 3 = (m + 2) + (j + 1) by omega, pw_add (m + 2), ← hD]
      exact Nat.mul_lt_mul_of_pos_right h2 (pw_pos _)
    have h4 : valD (Q0.drop (j + m + 3)) = 0 := by
      rcases Nat.eq_zero_or_pos (valD (Q0.drop (j + m + 3))) with h | h
      · exact h
      · exfalso
        have : pw (j + m + 3) * 1 ≤ pw (j + m + 3) * valD (Q0.drop (j + m + 3)) := Nat.mul_le_mul_left _ h
        omega
    rw [h4, Nat.mul_zero, Nat.add_zero, show j + m + 3 = (j + m + 2) + 1 by omega, valD_dig, show j + m + 2 = (j + m + 1) + 1 by omega, valD_dig, valD_dig, pw_succ (j + m + 1), pw_succ (j + m)] at h1
    rw [h1, three_num]
  · have h1 : valD D = valD (D.take (m + 2)) := by rw [← hD, List.take_length]
    rw [h1, show m + 2 = (m + 1) + 1 by omega, valD_dig, valD_dig, pw_succ, pw_add, two_num]
theorem digD_of {Q Q0 : List (BitVec 32)} {i : Nat} (h : Q[i]? = Q0[i]?) : digD Q i = digD Q0 i := by simp [digD, List.getD, h]
theorem sm_fin (Q0 D Q : List (BitVec 32)) (j m fac bb cr t0 v2 V E : Nat) (hD : D.length = m + 2) (hN : j + m + 3 ≤ Q0.length) (hlen : Q.length = Q0.length) (hlt : valD Q0 < valD D * pw (j + 1)) (eV : valD Q0 = V) (eE : valD D * pw j = E)
    (hnum : valD Q + fac * valD D * pw j = valD Q0 + (bb + cr) * pw (j + (m + 2))) (hfar : ∀ z, j + (m + 2) ≤ z → Q[z]? = Q0[z]?) (ht0 : digD Q0 (j + (m + 2)) = t0) (hv : v2 % 4294967296 + cr + bb = t0 + v2 / 9223372036854775808 * 4294967296)
    (hX : fac * E ≤ V + E) (hfq : V / E ≤ fac) (hE : 0 < E) :
    (v2 / 9223372036854775808 = 0 → fac = V / E ∧ valD (Q.set (j + (m + 2)) (BitVec.ofNat 32 v2)) = V % E) ∧
    (v2 / 9223372036854775808 = 1 → fac = V / E + 1 ∧ ∀ (Q2 : List (BitVec 32)) (y : Nat), Q2.length = Q.length → y ≤ 1 → valD Q2 + y * pw (j + (m + 2) + 1) = valD (Q.set (j + (m + 2)) (BitVec.ofNat 32 v2)) + valD D * pw j → (∀ z, j + (m + 2) + 1 ≤ z → Q2[z]? = (Q.set (j + (m + 2)) (BitVec.ofNat 32 v2))[z]?) → valD Q2 = V % E) := by
  have hjl : j + (m + 2) < Q.length := by omega
  have hs := valD_set Q (j + (m + 2)) (BitVec.ofNat 32 v2) hjl
  rw [← digD_in Q _ hjl, digD_of (hfar _ (Nat.le_refl _)), ht0, BitVec.toNat_ofNat] at hs
  have hV3 : valD Q0 < pw (j + (m + 2) + 1) := by
    rw [show j + (m + 2) + 1 = (m + 2) + (j + 1) by omega, pw_add (m + 2), ← hD]
    exact Nat.lt_trans hlt (Nat.mul_lt_mul_of_pos_right (valD_lt D) (pw_pos _))
  have hhi : ∀ z, j + (m + 2) + 1 ≤ z → z < Q.length → (Q.set (j + (m + 2)) (BitVec.ofNat 32 v2))[z]? = some 0#32 := by
    intro z h1 h2
    rw [set_far _ hfar z h1]
    exact high_zero Q0 _ hV3 z h1 (by omega)
  have hlow := high_lt (Q.set (j + (m + 2)) (BitVec.ofNat 32 v2)) (j + (m + 2) + 1) (fun z h1 h2 => hhi z h1 (by rwa [List.length_set] at h2))
  rw [Nat.mul_assoc, eE, eV] at hnum
  have hdm := Nat.div_add_mod V E
  have h32 : (2 : Nat) ^ 32 = 4294967296 := by decide
  rw [h32] at hs
  rw [pw_succ] at hlow ⊢
  generalize valD (Q.set (j + (m + 2)) (BitVec.ofNat 32 v2)) = W at *
  generalize hr : pw (j + (m + 2)) = r at *
  have hm := congrArg (r * ·) hv
  simp only [Nat.mul_add] at hm
  rw [Nat.add_mul] at hnum
  have c1 : bb * r = r * bb := Nat.mul_comm _ _
  have c2 : cr * r = r * cr := Nat.mul_comm _ _
  refine ⟨fun h0 => ?_, fun h1 => ?_⟩
  · rw [h0, Nat.zero_mul, Nat.mul_zero, Nat.add_zero] at hm
    have hle : fac * E ≤ V := by omega
    have hf : fac = V / E := Nat.le_antisymm ((Nat.le_div_iff_mul_le hE).2 hle) hfq
    refine ⟨hf, ?_⟩
    rw [← hf, Nat.mul_comm E] at hdm
    omega
  · rw [h1, Nat.one_mul] at hm
    have hgt : V < fac * E := by omega
    have hf : fac = V / E + 1 := by
      have h2 : V / E < fac := (Nat.div_lt_iff_lt_mul hE).2 hgt
      rcases Nat.lt_or_ge (V / E + 1) fac with h | h
      · exfalso
        have h3 : (V / E + 2) * E ≤ fac * E := Nat.mul_le_mul_right _ h
        rw [Nat.add_mul] at h3
        have h4 : V % E < E := Nat.mod_lt _ hE
        rw [Nat.mul_comm E] at hdm
        omega
      · omega
    refine ⟨hf, fun Q2 y hl hy hq hz => ?_⟩
    have hlow2 := high_lt Q2 (j + (m + 2) + 1) (fun z g1 g2 => by rw [hz z g1]; exact hhi z g1 (by omega))
    rw [pw_succ, hr] at hlow2
    rw [eE] at hq
    rw [hf, Nat.add_mul, Nat.one_mul] at hnum
    rw [Nat.mul_comm E] at hdm
    rcases Nat.eq_zero_or_pos y with h | h
    · rw [h, Nat.zero_mul] at hq
      omega
    · obtain rfl : y = 1 := by omega
      rw [Nat.one_mul] at hq
      omega
def EsR (top d1 q : Nat) (l f : Value) (w wr : World) : Prop := ∃ (left fac : Nat), l = .int .u64 left ∧ f = .int .u64 fac ∧ fac < 4294967296 ∧ q ≤ fac ∧ Hid (left + fac * d1 = top) ∧ ∃ k, wr = w.drewN k
def SmR (w : World) (B : Nat) (Q0 D : List (BitVec 32)) (g N cp j f : Nat) (b c i : Value) (wr : World) : Prop := ∃ (p bb q : Nat) (Q : List (BitVec 32)), p ≤ D.length ∧ i = .int .i64 p ∧ b = .int .u64 bb ∧ bb ≤ 1 ∧ c = .int .u64 q ∧ q < 4294967296 ∧
  Hid (Q.length = N ∧ valD Q + f * valD (D.take p) * pw j = valD Q0 + (bb + q) * pw (j + p) ∧ ∀ z, j + p ≤ z → Q[z]? = Q0[z]?) ∧
  wr.ownsRow B 39 1 (.slice (some ⟨g, 0, none⟩) N cp) N (bv32 Q) ∧ w.grownBy wr (some g)
set_option maxRecDepth 50000 in
set_option maxHeartbeats 2000000 in
theorem subm_any (B g N cp j m n c dc : Nat) (dv : Option Addr) (Q0 D : List (BitVec 32)) (w : World) (hN : Q0.length = N) (hn : D.length = n) (hm : n = m + 2) (hfit : j + n + 1 ≤ N) (hl : N ≤ 1000000) (hown : w.ownsRow B 39 1 (.slice (some ⟨g, 0, none⟩) N cp) N (bv32 Q0)) (hs : Rw w dv D) (hlow : ∀ ad, dv = some ad → some ad.block ≠ some g) (hd1 : 0 < digD D (m + 1)) (hlt : valD Q0 < valD D * pw (j + 1)) :
    Calls Tryd.prog 63 #[.slice (some ⟨g, j, none⟩) (n + 1) c, .slice dv n dc] w fun e w' => e = .returned (.int .u32 (valD Q0 / (valD D * pw j) : Nat)) ∧ ∃ (Q : List (BitVec 32)), Q.length = N ∧ valD Q = valD Q0 % (valD D * pw j) ∧ w'.ownsRow B 39 1 (.slice (some ⟨g, 0, none⟩) N cp) N (bv32 Q) ∧ w.grownBy w' (some g) := by
  obtain ⟨lo, dl, hlo, hdl, hV, hE⟩ := sm_setup Q0 D j m (by omega) (by omega) hlt
  have hP := pw_pos (j + m)
  have hEp : 0 < valD D * pw j := by
    rw [hE]
    have : pw (j + m) * 1 ≤ pw (j + m) * (digD D m + 4294967296 * digD D (m + 1)) := Nat.mul_le_mul_left _ (by omega)
    omega
  have hqle : valD Q0 / (valD D * pw j) * (valD D * pw j) ≤ valD Q0 := Nat.div_mul_le_self _ _
  have hqB : valD Q0 / (valD D * pw j) < 4294967296 := by
    rw [Nat.div_lt_iff_lt_mul hEp]
    rw [pw_succ] at hlt
    rw [Nat.mul_comm, Nat.mul_assoc]
    exact hlt
  obtain ⟨q, hq⟩ : ∃ q, valD Q0 / (valD D * pw j) = q := ⟨_, rfl⟩
  rw [hq] at hqle hqB
  obtain ⟨bd, rfl, hcd1⟩ := hs (m + 1) (by omega)
  have hcd2 : w.cell? (bd.add m) = some (.int .u32 (D[m].toNat : Int)) := by
    obtain ⟨b2, e, h⟩ := hs m (by omega)
    cases e
    exact h
  obtain ⟨d1, hd1e⟩ : ∃ y, digD D (m + 1) = y := ⟨_, rfl⟩
  obtain ⟨d2, hd2e⟩ : ∃ y, digD D m = y := ⟨_, rfl⟩
  have e1 := digD_lt D (m + 1)
  have e2 := digD_lt D m
  rw [← digD_in D (m + 1) (by omega), hd1e] at hcd1
  rw [← digD_in D m (by omega), hd2e] at hcd2
  rw [hd1e] at hd1 hE e1
  rw [hd2e] at hE e2
  have hc0 := own_cell hown (j + (m + 2)) (.int .u32 (digD Q0 (j + (m + 2)) : Int)) (by rw [digD_in _ _ (by omega)]; simp [bv32, show j + (m + 2) < Q0.length by omega])
  have hc1 := own_cell hown (j + (m + 1)) (.int .u32 (digD Q0 (j + (m + 1)) : Int)) (by rw [digD_in _ _ (by omega)]; simp [bv32, show j + (m + 1) < Q0.length by omega])
  have hc2 := own_cell hown (j + m) (.int .u32 (digD Q0 (j + m) : Int)) (by rw [digD_in _ _ (by omega)]; simp [bv32, show j + m < Q0.length by omega])
  have e3 := digD_lt Q0 (j + (m + 2))
  have e4 := digD_lt Q0 (j + (m + 1))
  have e5 := digD_lt Q0 (j + m)
  obtain ⟨t0, ht0⟩ : ∃ y, digD Q0 (j + (m + 2)) = y := ⟨_, rfl⟩
  obtain ⟨t1, ht1⟩ : ∃ y, digD Q0 (j + (m + 1)) = y := ⟨_, rfl⟩
  obtain ⟨t2, ht2⟩ : ∃ y, digD Q0 (j + m) = y := ⟨_, rfl⟩
  rw [ht0] at hc0 e3
  rw [ht1] at hc1 e4
  rw [ht2] at hc2 e5
  rw [show j + m + 2 = j + (m + 2) by omega, show j + m + 1 = j + (m + 1) by omega, ht0, ht1, ht2] at hV
  have hor := or_num t0 t1 e3 e4
  obtain ⟨top, htop⟩ : ∃ y, t0 * 4294967296 + t1 = y := ⟨_, rfl⟩
  rw [htop] at hor hV
  have htop2 : top < 18446744073709551616 := by omega
  have hqd := est_top _ _ _ _ _ _ _ _ _ q hV hlo e5 hE hqle
  obtain ⟨f0, hf0⟩ : ∃ y, min (top / d1) 4294967295 = y := ⟨_, rfl⟩
  have hf1 : f0 < 4294967296 := by omega
  have hf2 : q ≤ f0 := by
    have : q ≤ top / d1 := (Nat.le_div_iff_mul_le hd1).2 hqd
    omega
  have hf3 : f0 * d1 ≤ top := Nat.le_trans (Nat.mul_le_mul_right _ (by omega)) (Nat.div_mul_le_self top d1)
  obtain ⟨x0, hx0⟩ : ∃ y, f0 * d1 = y := ⟨_, rfl⟩
  obtain ⟨k0, hk0⟩ : ∃ y, top / d1 = y := ⟨_, rfl⟩
  have hk1 : k0 < 18446744073709551616 := by rw [← hk0]; exact Nat.lt_of_le_of_lt (Nat.div_le_self _ _) htop2
  have m0 : (top : Int) / (d1 : Int) = (k0 : Int) := by rw [← hk0]; simp
  rw [hk0] at hf0
  have m1 : min (k0 : Int) 4294967295 = (f0 : Int) := by rw [← hf0]; omega
  have m2 : (if (4294967295 : Int) < (k0 : Int) then (4294967295 : Int) else (k0 : Int)) = (f0 : Int) := by rw [← m1]; split <;> omega
  have m3 : (top : Int).tdiv (d1 : Int) = (k0 : Int) := by rw [Int.tdiv_eq_ediv_of_nonneg (by omega)]; exact m0
  have m4 : (f0 : Int) * (d1 : Int) = (x0 : Int) := by rw [← hx0]; simp
  have hdz : ((d1 : Int) == 0) = false := by rw [beq_eq_false_iff_ne]; omega
  have hdz2 : ¬ d1 = 0 := by omega
  rw [hx0] at hf3
  have i1 : ((m + 2 : Nat) : Int) - 1 = ((m + 1 : Nat) : Int) := by omega
  have i2 : ((m + 2 : Nat) : Int) - 2 = (m : Int) := by omega
  have hcd3 : w.cell? ⟨bd.block, bd.off + (m + 1), none⟩ = some (.int .u32 (d1 : Int)) := hcd1
  subst hm
  have HV := Lib.hid hV
  have HE := Lib.hid hE
  have HEP := Lib.hid hEp
  have HQ := Lib.hid hq
  have HQL := Lib.hid hqle
  have HX0 := Lib.hid hx0
  have HLO := Lib.hid hlo
  have HDL := Lib.hid hdl
  have HT0 := Lib.hid ht0
  have HD := Lib.hid hn
  have HNN := Lib.hid hN
  have HLT := Lib.hid hlt
  clear hV hE hEp hqle hx0 hlo hdl ht0 ht1 ht2 htop hk0 hqd hd1e hd2e hlt hP hn hN
  go_enter Tryd.func63, Tryd.ntmps63
  go_wp2
  go_quiet (fail)
  go_wp2
  clear m0 m1 m2 m3 m4 hf0 hk1 hor hdz hdz2 hcd1 hcd3 hc0 hc1
  go_loopw [8, 9] (fun f l wr => EsR top d1 q l f w wr) (fun f _ _ => (intOf f).toNat)
  case atStart => exact ⟨top - x0, f0, by go_num, rfl, hf1, hf2, (by show _ = _; have := HX0.out; omega), _, rfl⟩
  case round =>
    obtain ⟨left, fac, rfl, rfl, hfb, hfq, hle, kk, rfl⟩ := hrel
    obtain ⟨pd, hpd⟩ : ∃ y, fac * d2 = y := ⟨_, rfl⟩
    have hpi : (fac : Int) * (d2 : Int) = (pd : Int) := by rw [← hpd]; simp
    have hpb := mul_lt32 hfb e2
    rw [hpd] at hpb
    have HPD := Lib.hid hpd
    clear hpd
    by_cases hm : left ≤ 4294967295
    · have hmd : decide ((left : Int) ≤ 4294967295) = true := by rw [decide_eq_true_iff]; omega
      have hor := or_num left t2 (by omega) e5
      obtain ⟨u, hu⟩ : ∃ y, left * 4294967296 + t2 = y := ⟨_, rfl⟩
      rw [hu] at hor
      have HU := Lib.hid hu
      have hub : u < 18446744073709551616 := by omega
      clear hu
      by_cases hc : u < pd
      · have hcd : decide ((u : Int) < (pd : Int)) = true := by rw [decide_eq_true_iff]; omega
        have hfp : 0 < fac := by
          rcases Nat.eq_zero_or_pos fac with h | h
          · exfalso; have := HPD.out; subst h; rw [Nat.zero_mul] at this; omega
          · exact h
        go_wp2
        go_quiet (fail)
        go_wp2
        go_roundw
        case rel =>
          refine ⟨left + d1, fac - 1, by go_num, by go_num, by omega, ?_, ?_, _, rfl⟩
          · have := est_step _ _ _ _ _ _ _ _ _ _ _ _ HV.out HLO.out HE.out hle.out (by rw [HU.out, HPD.out]; exact hc) HQL.out
            omega
          · show _ = _
            have h := hle.out
            obtain ⟨f', rfl⟩ : ∃ f', fac = f' + 1 := ⟨fac - 1, by omega⟩
            rw [Nat.add_mul, Nat.one_mul] at h
            rw [Nat.add_sub_cancel]
            omega
        case measure => simp [intOf] <;> omega
      · have hcd : decide ((u : Int) < (pd : Int)) = false := by rw [decide_eq_false_iff_not]; omega
        go_wp2
        go_quiet (fail)
        have HX : Hid (fac * (valD D * pw j) ≤ valD Q0 + valD D * pw j) := est_exit _ _ _ _ _ _ _ _ _ _ _ HV.out HE.out HDL.out hd1 hfb hle.out (by rw [HPD.out]; rw [HU.out]; exact Nat.le_of_not_lt hc)
        clear hpi hpb HPD hle hmd hm hor HU hub hc hcd
        go_wp2
        go_loopw [10, 11, 12, 73] (fun b c _ i wr => SmR w B Q0 D g N cp j fac b c i wr) (fun _ _ _ i _ => m + 2 - (intOf i).toNat)
        case atStart => exact ⟨0, 0, 0, Q0, Nat.zero_le _, rfl, rfl, by omega, rfl, by omega, ⟨HNN.out, by simp [valD_nil], fun z _ => rfl⟩, hown, grownBy_drewN (grownBy_drewN (grownBy_same _ _) _) _⟩
        case round =>
          obtain ⟨p, bb, cr, Q, hp, rfl, rfl, hbb, rfl, hcr, ho, hown2, hg⟩ := hrel
          have hsb := hs.grown hg hlow
          have hDl := HD.out
          have hQl := ho.out.1
          by_cases hlt : p < m + 2
          · obtain ⟨b2, hb2, hcx⟩ := hsb p (by omega)
            cases hb2
            have hjq : j + p < Q.length := by omega
            obtain ⟨z, hz⟩ : ∃ z, digD Q (j + p) = z := ⟨_, rfl⟩
            have hcz := own_cell hown2 (j + p) (.int .u32 (digD Q (j + p) : Int)) (by rw [digD_in _ _ hjq]; simp [bv32, hjq])
            have hfz := hown2.frozenAt (j + p)
            have ez := digD_lt Q (j + p)
            rw [hz] at hcz ez
            obtain ⟨x, hx⟩ : ∃ x, digD D p = x := ⟨_, rfl⟩
            have ex := digD_lt D p
            rw [← digD_in D p (by omega), hx] at hcx
            rw [hx] at ex
            have hsm := mul_lt32 hfb ex
            obtain ⟨s, hs2⟩ : ∃ s, fac * x = s := ⟨_, rfl⟩
            have hsi : (fac : Int) * (x : Int) = (s : Int) := by rw [← hs2]; simp
            rw [hs2] at hsm
            obtain ⟨cc, hcc⟩ : ∃ y, cr + s = y := ⟨_, rfl⟩
            have hci : (cr : Int) + (s : Int) = (cc : Int) := by omega
            have hcb : cc < 18446744073709551616 := by omega
            obtain ⟨lw, hlw⟩ : ∃ y, cc % 4294967296 = y := ⟨_, rfl⟩
            have hlb : lw < 4294967296 := by omega
            have hand : bits .and .u64 (cc : Int) 4294967295 = (lw : Int) := by
              have h := u64_and_nat cc 4294967295 hcb (by omega)
              rw [Nat.and_two_pow_sub_one_eq_mod cc 32] at h
              rw [← hlw]
              exact h
            obtain ⟨v1, v2, w1, w2, hv3, hv4, hv5⟩ := two_subs z lw bb ez hlb hbb
            have HF := Lib.hid (show digD D p = x ∧ fac * x = s ∧ cr + s = cc ∧ cc % 4294967296 = lw ∧ digD Q (j + p) = z ∧ j + p < Q.length from ⟨hx, hs2, hcc, hlw, hz, hjq⟩)
            have HV5 := Lib.hid hv5
            have w3 : IntKind.u64.wrap (v1 : Int) = (v1 : Int) := by rw [← w1, IntKind.wrap_u64, IntKind.wrap_u64]; omega
            clear hx hs2 hcc hlw hz hjq hv5 hDl hQl
            go_wp2
            go_roundw
            case rel =>
              obtain ⟨q1, q2, q3, q4, q5, hlen⟩ := HF.out
              refine ⟨p + 1, v2 / 9223372036854775808, cc / 4294967296, Q.set (j + p) (BitVec.ofNat 32 v2), by have := HD.out; omega, by go_num, by go_num, hv4, by go_num, by omega, ⟨?_, ?_, fun z2 h1 => set_far _ ho.out.2.2 z2 (by omega)⟩, ?_, hg.trans (grownBy_set _ _ _ _)⟩
              · rw [List.length_set]; exact ho.out.1
              · have hv := valD_set Q (j + p) (BitVec.ofNat 32 v2) hlen
                rw [← digD_in Q _ hlen, q5, BitVec.toNat_ofNat] at hv
                rw [show j + (p + 1) = (j + p) + 1 by omega, pw_succ, valD_dig, q1]
                exact sm_num _ _ _ _ _ _ _ _ _ _ _ _ _ _ _ hv ho.out.2.1 (by rw [q2]; exact q3) (by rw [q4]; exact HV5.out) (by rw [pw_add, Nat.mul_comm])
              · rw [bv32_set, toNat32]
                exact own_set hown2 _ _
            case measure => simp [intOf] <;> omega
          · obtain rfl : p = m + 2 := by omega
            have hjq : j + (m + 2) < Q.length := by omega
            have hdz := digD_of (ho.out.2.2 (j + (m + 2)) (Nat.le_refl _))
            rw [HT0.out] at hdz
            have hcz := own_cell hown2 (j + (m + 2)) (.int .u32 (digD Q (j + (m + 2)) : Int)) (by rw [digD_in _ _ hjq]; simp [bv32, hjq])
            rw [hdz] at hcz
            have hfz := hown2.frozenAt (j + (m + 2))
            obtain ⟨v1, v2, w1, w2, hv3, hv4, hv5⟩ := two_subs t0 cr bb e3 hcr hbb
            have w3 : IntKind.u64.wrap (v1 : Int) = (v1 : Int) := by rw [← w1, IntKind.wrap_u64, IntKind.wrap_u64]; omega
            have hnum := ho.out.2.1
            rw [← hDl, List.take_length, hDl] at hnum
            have hfin := sm_fin Q0 D Q j m fac bb cr t0 v2 _ _ hDl (by have := HNN.out; omega) (by rw [hQl, HNN.out]) HLT.out rfl rfl hnum ho.out.2.2 HT0.out hv5 HX.out (by rw [hq]; exact hfq) HEP.out
            rw [hq] at hfin
            have HFIN := Lib.hid hfin
            have HL2 := Lib.hid hQl
            have HJ2 := Lib.hid hjq
            have hown3 := own_set hown2 (j + (m + 2)) (.int .u32 ((v2 : Int) % 4294967296))
            have hg3 := hg.trans (grownBy_set wr g (j + (m + 2)) (.int .u32 ((v2 : Int) % 4294967296)))
            rw [← toNat32 v2, ← bv32_set, toNat32 v2] at hown3
            clear hfin hnum hv5 hQl hjq hDl hdz
            by_cases hvz : v2 / 9223372036854775808 = 0
            · have hvi : (v2 : Int) / 9223372036854775808 = 0 := by omega
              go_wp2
              go_ret
              obtain ⟨k1, k2⟩ := HFIN.out.1 hvz
              exact ⟨by rw [k1, HQ.out]; rfl, _, by rw [List.length_set]; exact HL2.out, k2, hown3, hg3⟩
            · have hvo : v2 / 9223372036854775808 = 1 := by omega
              have hvi : (v2 : Int) / 9223372036854775808 = 1 := by omega
              have hsc := hs.grown hg3 hlow
              obtain ⟨k1, k2⟩ := HFIN.out.2 hvo
              have K2 := Lib.hid k2
              clear k2
              go_wp2_with (go_at_call 72; (with_reducible refine (addback_any B g N cp j (m + 2) c dc (some bd) _ D _ (by rw [List.length_set]; exact HL2.out) HD.out hfit hl hown3 hsc hlow).mono ?_); rintro e wz ⟨rfl, Q2, y, hl2, hy, hqn, hfar2, hown4, hg4⟩)
              go_ret
              exact ⟨by rw [HQ.out]; rfl, Q2, hl2, K2.out Q2 y (by rw [hl2, HL2.out]) hy hqn hfar2, hown4, hg3.trans hg4⟩
    · have hmd : decide ((left : Int) ≤ 4294967295) = false := by rw [decide_eq_false_iff_not]; omega
      go_wp2
      go_quiet (fail)
      have HX : Hid (fac * (valD D * pw j) ≤ valD Q0 + valD D * pw j) := est_exit _ _ _ _ _ _ _ _ _ _ _ HV.out HE.out HDL.out hd1 hfb hle.out (by rw [HPD.out]; exact Nat.le_trans hpb (by omega))
      clear hpi hpb HPD hle hmd hm 
      go_wp2
      go_loopw [10, 11, 12, 73] (fun b c _ i wr => SmR w B Q0 D g N cp j fac b c i wr) (fun _ _ _ i _ => m + 2 - (intOf i).toNat)
      case atStart => exact ⟨0, 0, 0, Q0, Nat.zero_le _, rfl, rfl, by omega, rfl, by omega, ⟨HNN.out, by simp [valD_nil], fun z _ => rfl⟩, hown, grownBy_drewN (grownBy_drewN (grownBy_same _ _) _) _⟩
      case round =>
        obtain ⟨p, bb, cr, Q, hp, rfl, rfl, hbb, rfl, hcr, ho, hown2, hg⟩ := hrel
        have hsb := hs.grown hg hlow
        have hDl := HD.out
        have hQl := ho.out.1
        by_cases hlt : p < m + 2
        · obtain ⟨b2, hb2, hcx⟩ := hsb p (by omega)
          cases hb2
          have hjq : j + p < Q.length := by omega
          obtain ⟨z, hz⟩ : ∃ z, digD Q (j + p) = z := ⟨_, rfl⟩
          have hcz := own_cell hown2 (j + p) (.int .u32 (digD Q (j + p) : Int)) (by rw [digD_in _ _ hjq]; simp [bv32, hjq])
          have hfz := hown2.frozenAt (j + p)
          have ez := digD_lt Q (j + p)
          rw [hz] at hcz ez
          obtain ⟨x, hx⟩ : ∃ x, digD D p = x := ⟨_, rfl⟩
          have ex := digD_lt D p
          rw [← digD_in D p (by omega), hx] at hcx
          rw [hx] at ex
          have hsm := mul_lt32 hfb ex
          obtain ⟨s, hs2⟩ : ∃ s, fac * x = s := ⟨_, rfl⟩
          have hsi : (fac : Int) * (x : Int) = (s : Int) := by rw [← hs2]; simp
          rw [hs2] at hsm
          obtain ⟨cc, hcc⟩ : ∃ y, cr + s = y := ⟨_, rfl⟩
          have hci : (cr : Int) + (s : Int) = (cc : Int) := by omega
          have hcb : cc < 18446744073709551616 := by omega
          obtain ⟨lw, hlw⟩ : ∃ y, cc % 4294967296 = y := ⟨_, rfl⟩
          have hlb : lw < 4294967296 := by omega
          have hand : bits .and .u64 (cc : Int) 4294967295 = (lw : Int) := by
            have h := u64_and_nat cc 4294967295 hcb (by omega)
            rw [Nat.and_two_pow_sub_one_eq_mod cc 32] at h
            rw [← hlw]
            exact h
          obtain ⟨v1, v2, w1, w2, hv3, hv4, hv5⟩ := two_subs z lw bb ez hlb hbb
          have HF := Lib.hid (show digD D p = x ∧ fac * x = s ∧ cr + s = cc ∧ cc % 4294967296 = lw ∧ digD Q (j + p) = z ∧ j + p < Q.length from ⟨hx, hs2, hcc, hlw, hz, hjq⟩)
          have HV5 := Lib.hid hv5
          have w3 : IntKind.u64.wrap (v1 : Int) = (v1 : Int) := by rw [← w1, IntKind.wrap_u64, IntKind.wrap_u64]; omega
          clear hx hs2 hcc hlw hz hjq hv5 hDl hQl
          go_wp2
          go_roundw
          case rel =>
            obtain ⟨q1, q2, q3, q4, q5, hlen⟩ := HF.out
            refine ⟨p + 1, v2 / 9223372036854775808, cc / 4294967296, Q.set (j + p) (BitVec.ofNat 32 v2), by have := HD.out; omega, by go_num, by go_num, hv4, by go_num, by omega, ⟨?_, ?_, fun z2 h1 => set_far _ ho.out.2.2 z2 (by omega)⟩, ?_, hg.trans (grownBy_set _ _ _ _)⟩
            · rw [List.length_set]; exact ho.out.1
            · have hv := valD_set Q (j + p) (BitVec.ofNat 32 v2) hlen
              rw [← digD_in Q _ hlen, q5, BitVec.toNat_ofNat] at hv
              rw [show j + (p + 1) = (j + p) + 1 by omega, pw_succ, valD_dig, q1]
              exact sm_num _ _ _ _ _ _ _ _ _ _ _ _ _ _ _ hv ho.out.2.1 (by rw [q2]; exact q3) (by rw [q4]; exact HV5.out) (by rw [pw_add, Nat.mul_comm])
            · rw [bv32_set, toNat32]
              exact own_set hown2 _ _
          case measure => simp [intOf] <;> omega
        · obtain rfl : p = m + 2 := by omega
          have hjq : j + (m + 2) < Q.length := by omega
          have hdz := digD_of (ho.out.2.2 (j + (m + 2)) (Nat.le_refl _))
          rw [HT0.out] at hdz
          have hcz := own_cell hown2 (j + (m + 2)) (.int .u32 (digD Q (j + (m + 2)) : Int)) (by rw [digD_in _ _ hjq]; simp [bv32, hjq])
          rw [hdz] at hcz
          have hfz := hown2.frozenAt (j + (m + 2))
          obtain ⟨v1, v2, w1, w2, hv3, hv4, hv5⟩ := two_subs t0 cr bb e3 hcr hbb
          have w3 : IntKind.u64.wrap (v1 : Int) = (v1 : Int) := by rw [← w1, IntKind.wrap_u64, IntKind.wrap_u64]; omega
          have hnum := ho.out.2.1
          rw [← hDl, List.take_length, hDl] at hnum
          have hfin := sm_fin Q0 D Q j m fac bb cr t0 v2 _ _ hDl (by have := HNN.out; omega) (by rw [hQl, HNN.out]) HLT.out rfl rfl hnum ho.out.2.2 HT0.out hv5 HX.out (by rw [hq]; exact hfq) HEP.out
          rw [hq] at hfin
          have HFIN := Lib.hid hfin
          have HL2 := Lib.hid hQl
          have HJ2 := Lib.hid hjq
          have hown3 := own_set hown2 (j + (m + 2)) (.int .u32 ((v2 : Int) % 4294967296))
          have hg3 := hg.trans (grownBy_set wr g (j + (m + 2)) (.int .u32 ((v2 : Int) % 4294967296)))
          rw [← toNat32 v2, ← bv32_set, toNat32 v2] at hown3
          clear hfin hnum hv5 hQl hjq hDl hdz
          by_cases hvz : v2 / 9223372036854775808 = 0
          · have hvi : (v2 : Int) / 9223372036854775808 = 0 := by omega
            go_wp2
            go_ret
            obtain ⟨k1, k2⟩ := HFIN.out.1 hvz
            exact ⟨by rw [k1, HQ.out]; rfl, _, by rw [List.length_set]; exact HL2.out, k2, hown3, hg3⟩
          · have hvo : v2 / 9223372036854775808 = 1 := by omega
            have hvi : (v2 : Int) / 9223372036854775808 = 1 := by omega
            have hsc := hs.grown hg3 hlow
            obtain ⟨k1, k2⟩ := HFIN.out.2 hvo
            have K2 := Lib.hid k2
            clear k2
            go_wp2_with (go_at_call 72; (with_reducible refine (addback_any B g N cp j (m + 2) c dc (some bd) _ D _ (by rw [List.length_set]; exact HL2.out) HD.out hfit hl hown3 hsc hlow).mono ?_); rintro e wz ⟨rfl, Q2, y, hl2, hy, hqn, hfar2, hown4, hg4⟩)
            go_ret
            exact ⟨by rw [HQ.out]; rfl, Q2, hl2, K2.out Q2 y (by rw [hl2, HL2.out]) hy hqn hfar2, hown4, hg3.trans hg4⟩
end Go.Proofs.YtbnialhpflaoaaaDoor
