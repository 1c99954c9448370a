
import Derived.Test.YtcofiekfhnfjpaaDoorU2
import Derived.Test.YtcofiekfhnfjpaaDoorU6
import Derived.Laws.CopyOwn
/- DmNum -/
namespace Go.Proofs.YtcofiekfhnfjpaaDoor
/-- The estimate of a digit of the quotient is never too small. -/
theorem est_top (V E P lo dl r2 top d2 d1 q : Nat) (hV : V = lo + P * (r2 + 4294967296 * top)) (hlo : lo < P) (hr2 : r2 < 4294967296) (hE : E = dl + P * (d2 + 4294967296 * d1)) (hq : q * E ≤ V) : q * d1 ≤ top := by
  rcases Nat.lt_or_ge top (q * d1) with h | h
  · exfalso
    have h0 : P * (4294967296 * d1) ≤ P * (d2 + 4294967296 * d1) := Nat.mul_le_mul_left _ (by omega)
    have h1 : q * (P * (4294967296 * d1)) ≤ q * E := Nat.mul_le_mul_left _ (by rw [hE]; omega)
    have h2 : q * (P * (4294967296 * d1)) = P * (4294967296 * (q * d1)) := by grind
    have h3 : P * (4294967296 * (top + 1)) ≤ P * (4294967296 * (q * d1)) := Nat.mul_le_mul_left _ (by omega)
    have h4 : P * ((r2 + 4294967296 * top) + 1) ≤ P * (4294967296 * (top + 1)) := Nat.mul_le_mul_left _ (by omega)
    rw [Nat.mul_add, Nat.mul_one] at h4
    omega
  · exact h
theorem est_step (V E P lo dl r2 top d2 d1 f left q : Nat) (hV : V = lo + P * (r2 + 4294967296 * top)) (hlo : lo < P) (hE : E = dl + P * (d2 + 4294967296 * d1)) (hl : left + f * d1 = top) (ht : left * 4294967296 + r2 < f * d2) (hq : q * E ≤ V) : q + 1 ≤ f := by
  rcases Nat.lt_or_ge q f with h | h
  · exact h
  · exfalso
    have h1 : f * E ≤ q * E := Nat.mul_le_mul_right _ h
    have h2 : f * (P * (d2 + 4294967296 * d1)) ≤ f * E := Nat.mul_le_mul_left _ (by rw [hE]; omega)
    have h3 : f * (P * (d2 + 4294967296 * d1)) = P * (f * d2 + 4294967296 * (f * d1)) := by grind
    have h4 : P * ((r2 + 4294967296 * top) + 1) ≤ P * (f * d2 + 4294967296 * (f * d1)) := Nat.mul_le_mul_left _ (by omega)
    rw [Nat.mul_add, Nat.mul_one] at h4
    omega
theorem est_exit (V E P lo dl r2 top d2 d1 f left : Nat) (hV : V = lo + P * (r2 + 4294967296 * top)) (hE : E = dl + P * (d2 + 4294967296 * d1)) (hd : dl < P) (hd1 : 0 < d1) (hf : f < 4294967296) (hl : left + f * d1 = top) (ht : f * d2 ≤ left * 4294967296 + r2) : f * E ≤ V + E := by
  rcases Nat.eq_zero_or_pos f with h0 | h0
  · subst h0; rw [Nat.zero_mul]; exact Nat.zero_le _
  · obtain ⟨g, rfl⟩ : ∃ g, f = g + 1 := ⟨f - 1, by omega⟩
    rw [Nat.add_mul, Nat.one_mul] at *
    have h1 : g * E ≤ g * (P * (d2 + 4294967296 * d1 + 1)) := Nat.mul_le_mul_left _ (by rw [hE, Nat.mul_add P _ 1, Nat.mul_one]; omega)
    have h2 : g * (P * (d2 + 4294967296 * d1 + 1)) = P * (g * d2 + 4294967296 * (g * d1) + g) := by grind
    have h3 : P * (g * d2 + 4294967296 * (g * d1) + g) ≤ P * (r2 + 4294967296 * top) := Nat.mul_le_mul_left _ (by omega)
    omega
theorem sm_num (Q1 Q0 V0 f T x z c b nd b' R i r cc : Nat) (h1 : Q1 + r * z = Q0 + r * nd) (h0 : Q0 + f * T * R = V0 + (b + c) * r) (hcc : c + f * x = cc) (hd : nd + cc % 4294967296 + b = z + b' * 4294967296) (hr : r = i * R) : Q1 + f * (T + i * x) * R = V0 + (b' + cc / 4294967296) * (r * 4294967296) := by
  have h2 := congrArg (r * ·) hd
  have h3 := congrArg (r * ·) (Nat.mod_add_div cc 4294967296)
  have h4 := congrArg (r * ·) hcc
  simp only [Nat.mul_add] at h2 h3 h4
  have h5 : f * (T + i * x) * R = f * T * R + r * (f * x) := by subst hr; grind
  grind
theorem ab_num (Q1 Q0 V0 T x z c R i r cc : Nat) (h1 : Q1 + r * z = Q0 + r * (cc % 4294967296)) (h0 : Q0 + c * r = V0 + T * R) (hcc : c + (z + x) = cc) (hr : r = i * R) : Q1 + (cc / 4294967296) * (r * 4294967296) = V0 + (T + i * x) * R := by
  have h3 := congrArg (r * ·) (Nat.mod_add_div cc 4294967296)
  have h4 := congrArg (r * ·) hcc
  simp only [Nat.mul_add] at h3 h4
  have h5 : (T + i * x) * R = T * R + r * x := by subst hr; grind
  grind
theorem ab_end (Q1 Q0 V0 S z c r cc : Nat) (h1 : Q1 + r * z = Q0 + r * (cc % 4294967296)) (h0 : Q0 + c * r = V0 + S) (hcc : z + c = cc) : Q1 + (cc / 4294967296) * (r * 4294967296) = V0 + S := by
  have h3 := congrArg (r * ·) (Nat.mod_add_div cc 4294967296)
  have h4 := congrArg (r * ·) hcc
  simp only [Nat.mul_add] at h3 h4
  grind
theorem high_lt (l : List (BitVec 32)) (m : Nat) (h : ∀ z, m ≤ z → z < l.length → l[z]? = some 0#32) : valD l < pw m := by
  rcases Nat.lt_or_ge l.length m with hm | hm
  · exact Nat.lt_of_lt_of_le (valD_lt l) (pw_mono (Nat.le_of_lt hm))
  · rw [valD_split l m hm]
    have : l.drop m = List.replicate (l.length - m) 0#32 := by
      apply List.ext_getElem?
      intro i
      rw [List.getElem?_drop, List.getElem?_replicate]
      split
      · rename_i hi; exact h _ (by omega) (by omega)
      · rw [List.getElem?_eq_none (by omega)]
    rw [this, valD_zeros, Nat.mul_zero, Nat.add_zero]
    have h1 := valD_lt (l.take m)
    rwa [List.length_take, Nat.min_eq_left hm] at h1
theorem high_zero (l : List (BitVec 32)) (m : Nat) (h : valD l < pw m) (z : Nat) (hz : m ≤ z) (hl : z < l.length) : l[z]? = some 0#32 := by
  have e := valD_split l z (by omega)
  rw [drop_dig, digD_in _ _ hl, Nat.mul_add] at e
  have hp := pw_mono hz
  rcases Nat.eq_zero_or_pos l[z].toNat with h0 | h0
  · rw [List.getElem?_eq_getElem hl]
    exact congrArg some (BitVec.eq_of_toNat_eq (by simpa using h0))
  · exfalso
    have : pw z * 1 ≤ pw z * l[z].toNat := Nat.mul_le_mul_left _ h0
    omega
end Go.Proofs.YtcofiekfhnfjpaaDoor

/- PD -/
namespace Go.Proofs.YtcofiekfhnfjpaaDoor
open Go.RowKit
set_option linter.unusedVariables false
set_option linter.unusedSimpArgs false
def AbR (w : World) (B : Nat) (Q0 D : List (BitVec 32)) (g N cp j : Nat) (c i : Value) (wr : World) : Prop := ∃ (p q : Nat) (Q : List (BitVec 32)), p ≤ D.length ∧ i = .int .i64 p ∧ c = .int .u64 q ∧ q < 4294967296 ∧
  Hid (Q.length = N ∧ valD Q + q * pw (j + p) = valD Q0 + valD (D.take p) * pw j ∧ ∀ z, j + p ≤ z → Q[z]? = Q0[z]?) ∧
  wr.ownsRow B 32 1 (.slice (some ⟨g, 0, none⟩) N cp) N (bv32 Q) ∧ w.grownBy wr (some g)
theorem grownBy_drewN {a w : World} {r : Option Nat} (h : a.grownBy w r) (n : Nat) : a.grownBy (w.drewN n) r := ⟨h.os, h.tape, h.output, h.size, h.block⟩
theorem set_far {Q Q0 : List (BitVec 32)} {k : Nat} (d : BitVec 32) (h : ∀ z, k ≤ z → Q[z]? = Q0[z]?) (z : Nat) (hz : k + 1 ≤ z) : (Q.set k d)[z]? = Q0[z]? := by
  rw [List.getElem?_set_ne (by omega)]
  exact h z (by omega)
theorem get_of {Q : List (BitVec 32)} {k : Nat} {z : BitVec 32} (h : Q[k]? = some z) (hk : k < Q.length) : Q[k] = z := by
  rw [List.getElem?_eq_getElem hk] at h
  exact Option.some.inj h
set_option maxRecDepth 50000 in
set_option maxHeartbeats 2000000 in
theorem addback_any (B g N cp j n c dc : Nat) (dv : Option Addr) (Q0 D : List (BitVec 32)) (w : World) (hN : Q0.length = N) (hn : D.length = n) (hfit : j + n + 1 ≤ N) (hl : N ≤ 1000000) (hown : w.ownsRow B 32 1 (.slice (some ⟨g, 0, none⟩) N cp) N (bv32 Q0)) (hs : Rw w dv D) (hlow : ∀ ad, dv = some ad → some ad.block ≠ some g) :
    Calls Tryd.prog 76 #[.slice (some ⟨g, j, none⟩) (n + 1) c, .slice dv n dc] w fun e w' => e = .returned (.tuple #[]) ∧ ∃ (Q : List (BitVec 32)) (y : Nat), Q.length = N ∧ y ≤ 1 ∧ valD Q + y * pw (j + n + 1) = valD Q0 + valD D * pw j ∧ (∀ z, j + n + 1 ≤ z → Q[z]? = Q0[z]?) ∧ w'.ownsRow B 32 1 (.slice (some ⟨g, 0, none⟩) N cp) N (bv32 Q) ∧ w.grownBy w' (some g) := by
  subst hn
  go_enter Tryd.func76, Tryd.ntmps76
  go_wp2
  go_loopw [4, 5, 8] (fun q _ i wr => AbR w B Q0 D g N cp j q i wr) (fun _ _ i _ => D.length - (intOf i).toNat)
  case atStart => exact ⟨0, 0, Q0, Nat.zero_le _, rfl, rfl, by omega, ⟨hN, by simp [valD_nil], fun z _ => rfl⟩, hown, grownBy_same _ _⟩
  case round =>
    obtain ⟨p, q, Q, hp, rfl, rfl, hq, ho, hown2, hg⟩ := hrel
    have hsb := hs.grown hg hlow
    have hQl := ho.out.1
    by_cases hlt : p < D.length
    · obtain ⟨bd, rfl, hc2⟩ := hsb p hlt
      have hjq : j + p < Q.length := by omega
      obtain ⟨z, hz⟩ : ∃ z, Q[j + p] = z := ⟨_, rfl⟩
      have hc3 := own_cell hown2 (j + p) (.int .u32 (z.toNat : Int)) (by simp [bv32, hjq, hz])
      have hf3 := hown2.frozenAt (j + p)
      have e3 := z.isLt
      obtain ⟨y, hy⟩ : ∃ y, D[p].toNat = y := ⟨_, rfl⟩
      have e2 := D[p].isLt
      rw [hy] at hc2 e2
      have HF := Lib.hid (show digD D p = y ∧ Q[j + p]? = some z from ⟨by rw [digD_in _ _ hlt, hy], by rw [List.getElem?_eq_getElem hjq, hz]⟩)
      have HJ := Lib.hid hjq
      have HQ := Lib.hid hQl
      clear hy hz hQl hjq
      go_wp2
      go_quiet (fail)
      go_wp2
      go_roundw
      case rel =>
        have hlen := HJ.out
        have ed : (BitVec.ofNat 32 (q + (z.toNat + y))).toNat = (q + (z.toNat + y)) % 4294967296 := by rw [BitVec.toNat_ofNat]
        refine ⟨p + 1, (q + (z.toNat + y)) / 4294967296, Q.set (j + p) (BitVec.ofNat 32 (q + (z.toNat + y))), by omega, by go_num, by go_num, by omega, ⟨?_, ?_, ?_⟩, ?_, ?_⟩
        · rw [List.length_set]; exact HQ.out
        · have hv := valD_set Q (j + p) (BitVec.ofNat 32 (q + (z.toNat + y))) hlen
          rw [get_of HF.out.2 hlen, ed] at hv
          rw [show j + (p + 1) = (j + p) + 1 by omega, pw_succ, valD_dig, HF.out.1]
          exact ab_num _ _ _ _ _ _ _ _ _ _ _ hv ho.out.2.1 rfl (by rw [pw_add, Nat.mul_comm])
        · exact fun z2 h1 => set_far _ ho.out.2.2 z2 (by omega)
        · rw [bv32_set, ed]
          rw [show (((q + (z.toNat + y)) % 4294967296 : Nat) : Int) = ((q : Int) + ((z.toNat : Int) + (y : Int))) % 4294967296 by omega]
          exact own_set (w := wr.drewN _) hown2 _ _
        · exact (grownBy_drewN hg _).trans (grownBy_set _ _ _ _)
      case measure => simp [intOf] <;> omega
    · have hjk : p = D.length := by omega
      subst hjk
      have hjq : j + D.length < Q.length := by omega
      obtain ⟨z, hz⟩ : ∃ z, Q[j + D.length] = z := ⟨_, rfl⟩
      have hc3 := own_cell hown2 (j + D.length) (.int .u32 (z.toNat : Int)) (by simp [bv32, hjq, hz])
      have hf3 := hown2.frozenAt (j + D.length)
      have e3 := z.isLt
      have HF := Lib.hid (show Q[j + D.length]? = some z from by rw [List.getElem?_eq_getElem hjq, hz])
      have HJ := Lib.hid hjq
      have HQ := Lib.hid hQl
      clear hz hQl hjq
      go_wp2
      refine bodyPost_end (v := .tuple #[]) (by simp [results, Tryd.results76, go_sem]) rfl ?_
      have hlen := HJ.out
      have ed : (BitVec.ofNat 32 (z.toNat + q)).toNat = (z.toNat + q) % 4294967296 := by rw [BitVec.toNat_ofNat]
      refine ⟨rfl, Q.set (j + D.length) (BitVec.ofNat 32 (z.toNat + q)), (z.toNat + q) / 4294967296, by rw [List.length_set]; exact HQ.out, by omega, ?_, fun z2 h1 => set_far _ ho.out.2.2 z2 h1, ?_, hg.trans (grownBy_set _ _ _ _)⟩
      · have hv := valD_set Q (j + D.length) (BitVec.ofNat 32 (z.toNat + q)) hlen
        rw [get_of HF.out hlen, ed] at hv
        have h0 := ho.out.2.1
        rw [List.take_length] at h0
        rw [pw_succ]
        exact ab_end _ _ _ _ _ _ _ _ hv h0 rfl
      · rw [bv32_set, ed]
        rw [show (((z.toNat + q) % 4294967296 : Nat) : Int) = ((z.toNat : Int) + (q : Int)) % 4294967296 by omega]
        exact own_set hown2 _ _
end Go.Proofs.YtcofiekfhnfjpaaDoor

/- PE -/
namespace Go.Proofs.YtcofiekfhnfjpaaDoor
open Go.RowKit
set_option linter.unusedVariables false
set_option linter.unusedSimpArgs false
theorem three_num (a p x y z : Nat) : a + p * x + p * 4294967296 * y + p * 4294967296 * 4294967296 * z = a + p * (x + 4294967296 * (z * 4294967296 + y)) := by grind
theorem two_num (a p r x y : Nat) : (a + p * x + p * 4294967296 * y) * r = a * r + r * p * (x + 4294967296 * y) := by grind
theorem two_subs (z lw bb : Nat) (hz : z < 4294967296) (hl : lw < 4294967296) (hb : bb ≤ 1) : ∃ d1 d2 : Nat, IntKind.u64.wrap ((z : Int) - (lw : Int)) = (d1 : Int) ∧ IntKind.u64.wrap ((d1 : Int) - (bb : Int)) = (d2 : Int) ∧ d2 < 18446744073709551616 ∧ d2 / 9223372036854775808 ≤ 1 ∧ d2 % 4294967296 + lw + bb = z + d2 / 9223372036854775808 * 4294967296 := by
  have hxq : ∃ d1 : Nat, IntKind.u64.wrap ((z : Int) - (lw : Int)) = (d1 : Int) ∧ ((d1 : Int) = (z : Int) - (lw : Int) ∨ (d1 : Int) = (z : Int) - (lw : Int) + 18446744073709551616 ∧ (z : Int) < lw) ∧ d1 < 18446744073709551616 := by
    rw [IntKind.wrap_u64]
    refine ⟨(((z : Int) - (lw : Int)) % 18446744073709551616).toNat, by omega, by omega, by omega⟩
  obtain ⟨d1, h1, h2, h3⟩ := hxq
  refine ⟨d1, (((d1 : Int) - (bb : Int)) % 18446744073709551616).toNat, h1, ?_, by omega, by omega, by omega⟩
  rw [IntKind.wrap_u64]
  omega
theorem sm_setup (Q0 D : List (BitVec 32)) (j m : Nat) (hD : D.length = m + 2) (hN : j + m + 3 ≤ Q0.length) (hlt : valD Q0 < valD D * pw (j + 1)) :
    ∃ lo dl, lo < pw (j + m) ∧ dl < pw (j + m) ∧ valD Q0 = lo + pw (j + m) * (digD Q0 (j + m) + 4294967296 * (digD Q0 (j + m + 2) * 4294967296 + digD Q0 (j + m + 1))) ∧ valD D * pw j = dl + pw (j + m) * (digD D m + 4294967296 * digD D (m + 1)) := by
  refine ⟨valD (Q0.take (j + m)), valD (D.take m) * pw j, ?_, ?_, ?_, ?_⟩
  · have h1 := valD_lt (Q0.take (j + m))
    rwa [List.length_take, Nat.min_eq_left (by omega)] at h1
  · have h1 := valD_lt (D.take m)
    rw [List.length_take, Nat.min_eq_left (by omega)] at h1
    rw [Nat.add_comm j m, pw_add]
    exact Nat.mul_lt_mul_of_pos_right h1 (pw_pos j)
  · have h1 := dig_split Q0 (j + m + 3)
    have h2 := valD_lt D
    have h3 : valD D * pw (j + 1) < pw (j + m + 3) := by
      rw [show j + m + 3 = (m + 2) + (j + 1) by omega, pw_add (m + 2), ← hD]
      exact Nat.mul_lt_mul_of_pos_right h2 (pw_pos _)
    have h4 : valD (Q0.drop (j + m + 3)) = 0 := by
      rcases Nat.eq_zero_or_pos (valD (Q0.drop (j + m + 3))) with h | h
      · exact h
      · exfalso
        have : pw (j + m + 3) * 1 ≤ pw (j + m + 3) * valD (Q0.drop (j + m + 3)) := Nat.mul_le_mul_left _ h
        omega
    rw [h4, Nat.mul_zero, Nat.add_zero, show j + m + 3 = (j + m + 2) + 1 by omega, valD_dig, show j + m + 2 = (j + m + 1) + 1 by omega, valD_dig, valD_dig, pw_succ (j + m + 1), pw_succ (j + m)] at h1
    rw [h1, three_num]
  · have h1 : valD D = valD (D.take (m + 2)) := by rw [← hD, List.take_length]
    rw [h1, show m + 2 = (m + 1) + 1 by omega, valD_dig, valD_dig, pw_succ, pw_add, two_num]
theorem digD_of {Q Q0 : List (BitVec 32)} {i : Nat} (h : Q[i]? = Q0[i]?) : digD Q i = digD Q0 i := by simp [digD, List.getD, h]
theorem sm_fin (Q0 D Q : List (BitVec 32)) (j m fac bb cr t0 v2 V E : Nat) (hD : D.length = m + 2) (hN : j + m + 3 ≤ Q0.length) (hlen : Q.length = Q0.length) (hlt : valD Q0 < valD D * pw (j + 1)) (eV : valD Q0 = V) (eE : valD D * pw j = E)
    (hnum : valD Q + fac * valD D * pw j = valD Q0 + (bb + cr) * pw (j + (m + 2))) (hfar : ∀ z, j + (m + 2) ≤ z → Q[z]? = Q0[z]?) (ht0 : digD Q0 (j + (m + 2)) = t0) (hv : v2 % 4294967296 + cr + bb = t0 + v2 / 9223372036854775808 * 4294967296)
    (hX : fac * E ≤ V + E) (hfq : V / E ≤ fac) (hE : 0 < E) :
    (v2 / 9223372036854775808 = 0 → fac = V / E ∧ valD (Q.set (j + (m + 2)) (BitVec.ofNat 32 v2)) = V % E) ∧
    (v2 / 9223372036854775808 = 1 → fac = V / E + 1 ∧ ∀ (Q2 : List (BitVec 32)) (y : Nat), Q2.length = Q.length → y ≤ 1 → valD Q2 + y * pw (j + (m + 2) + 1) = valD (Q.set (j + (m + 2)) (BitVec.ofNat 32 v2)) + valD D * pw j → (∀ z, j + (m + 2) + 1 ≤ z → Q2[z]? = (Q.set (j + (m + 2)) (BitVec.ofNat 32 v2))[z]?) → valD Q2 = V % E) := by
  have hjl : j + (m + 2) < Q.length := by omega
  have hs := valD_set Q (j + (m + 2)) (BitVec.ofNat 32 v2) hjl
  rw [← digD_in Q _ hjl, digD_of (hfar _ (Nat.le_refl _)), ht0, BitVec.toNat_ofNat] at hs
  have hV3 : valD Q0 < pw (j + (m + 2) + 1) := by
    rw [show j + (m + 2) + 1 = (m + 2) + (j + 1) by omega, pw_add (m + 2), ← hD]
    exact Nat.lt_trans hlt (Nat.mul_lt_mul_of_pos_right (valD_lt D) (pw_pos _))
  have hhi : ∀ z, j + (m + 2) + 1 ≤ z → z < Q.length → (Q.set (j + (m + 2)) (BitVec.ofNat 32 v2))[z]? = some 0#32 := by
    intro z h1 h2
    rw [set_far _ hfar z h1]
    exact high_zero Q0 _ hV3 z h1 (by omega)
  have hlow := high_lt (Q.set (j + (m + 2)) (BitVec.ofNat 32 v2)) (j + (m + 2) + 1) (fun z h1 h2 => hhi z h1 (by rwa [List.length_set] at h2))
  rw [Nat.mul_assoc, eE, eV] at hnum
  have hdm := Nat.div_add_mod V E
  have h32 : (2 : Nat) ^ 32 = 4294967296 := by decide
  rw [h32] at hs
  rw [pw_succ] at hlow ⊢
  generalize valD (Q.set (j + (m + 2)) (BitVec.ofNat 32 v2)) = W at *
  generalize hr : pw (j + (m + 2)) = r at *
  have hm := congrArg (r * ·) hv
  simp only [Nat.mul_add] at hm
  rw [Nat.add_mul] at hnum
  have c1 : bb * r = r * bb := Nat.mul_comm _ _
  have c2 : cr * r = r * cr := Nat.mul_comm _ _
  refine ⟨fun h0 => ?_, fun h1 => ?_⟩
  · rw [h0, Nat.zero_mul, Nat.mul_zero, Nat.add_zero] at hm
    have hle : fac * E ≤ V := by omega
    have hf : fac = V / E := Nat.le_antisymm ((Nat.le_div_iff_mul_le hE).2 hle) hfq
    refine ⟨hf, ?_⟩
    rw [← hf, Nat.mul_comm E] at hdm
    omega
  · rw [h1, Nat.one_mul] at hm
    have hgt : V < fac * E := by omega
    have hf : fac = V / E + 1 := by
      have h2 : V / E < fac := (Nat.div_lt_iff_lt_mul hE).2 hgt
      rcases Nat.lt_or_ge (V / E + 1) fac with h | h
      · exfalso
        have h3 : (V / E + 2) * E ≤ fac * E := Nat.mul_le_mul_right _ h
        rw [Nat.add_mul] at h3
        have h4 : V % E < E := Nat.mod_lt _ hE
        rw [Nat.mul_comm E] at hdm
        omega
      · omega
    refine ⟨hf, fun Q2 y hl hy hq hz => ?_⟩
    have hlow2 := high_lt Q2 (j + (m + 2) + 1) (fun z g1 g2 => by rw [hz z g1]; exact hhi z g1 (by omega))
    rw [pw_succ, hr] at hlow2
    rw [eE] at hq
    rw [hf, Nat.add_mul, Nat.one_mul] at hnum
    rw [Nat.mul_comm E] at hdm
    rcases Nat.eq_zero_or_pos y with h | h
    · rw [h, Nat.zero_mul] at hq
      omega
    · obtain rfl : y = 1 := by omega
      rw [Nat.one_mul] at hq
      omega
def EsR (top d1 q : Nat) (l f : Value) (w wr : World) : Prop := ∃ (left fac : Nat), l = .int .u64 left ∧ f = .int .u64 fac ∧ fac < 4294967296 ∧ q ≤ fac ∧ Hid (left + fac * d1 = top) ∧ ∃ k, wr = w.drewN k
def SmR (w : World) (B : Nat) (Q0 D : List (BitVec 32)) (g N cp j f : Nat) (b c i : Value) (wr : World) : Prop := ∃ (p bb q : Nat) (Q : List (BitVec 32)), p ≤ D.length ∧ i = .int .i64 p ∧ b = .int .u64 bb ∧ bb ≤ 1 ∧ c = .int .u64 q ∧ q < 4294967296 ∧
  Hid (Q.length = N ∧ valD Q + f * valD (D.take p) * pw j = valD Q0 + (bb + q) * pw (j + p) ∧ ∀ z, j + p ≤ z → Q[z]? = Q0[z]?) ∧
  wr.ownsRow B 32 1 (.slice (some ⟨g, 0, none⟩) N cp) N (bv32 Q) ∧ w.grownBy wr (some g)
set_option maxRecDepth 50000 in
set_option maxHeartbeats 2000000 in
theorem subm_any (B g N cp j m n c dc : Nat) (dv : Option Addr) (Q0 D : List (BitVec 32)) (w : World) (hN : Q0.length = N) (hn : D.length = n) (hm : n = m + 2) (hfit : j + n + 1 ≤ N) (hl : N ≤ 1000000) (hown : w.ownsRow B 32 1 (.slice (some ⟨g, 0, none⟩) N cp) N (bv32 Q0)) (hs : Rw w dv D) (hlow : ∀ ad, dv = some ad → some ad.block ≠ some g) (hd1 : 0 < digD D (m + 1)) (hlt : valD Q0 < valD D * pw (j + 1)) :
    Calls Tryd.prog 67 #[.slice (some ⟨g, j, none⟩) (n + 1) c, .slice dv n dc] w fun e w' => e = .returned (.int .u32 (valD Q0 / (valD D * pw j) : Nat)) ∧ ∃ (Q : List (BitVec 32)), Q.length = N ∧ valD Q = valD Q0 % (valD D * pw j) ∧ w'.ownsRow B 32 1 (.slice (some ⟨g, 0, none⟩) N cp) N (bv32 Q) ∧ w.grownBy w' (some g) := by
  obtain ⟨lo, dl, hlo, hdl, hV, hE⟩ := sm_setup Q0 D j m (by omega) (by omega) hlt
  have hP := pw_pos (j + m)
  have hEp : 0 < valD D * pw j := by
    rw [hE]
    have : pw (j + m) * 1 ≤ pw (j + m) * (digD D m + 4294967296 * digD D (m + 1)) := Nat.mul_le_mul_left _ (by omega)
    omega
  have hqle : valD Q0 / (valD D * pw j) * (valD D * pw j) ≤ valD Q0 := Nat.div_mul_le_self _ _
  have hqB : valD Q0 / (valD D * pw j) < 4294967296 := by
    rw [Nat.div_lt_iff_lt_mul hEp]
    rw [pw_succ] at hlt
    rw [Nat.mul_comm, Nat.mul_assoc]
    exact hlt
  obtain ⟨q, hq⟩ : ∃ q, valD Q0 / (valD D * pw j) = q := ⟨_, rfl⟩
  rw [hq] at hqle hqB
  obtain ⟨bd, rfl, hcd1⟩ := hs (m + 1) (by omega)
  have hcd2 : w.cell? (bd.add m) = some (.int .u32 (D[m].toNat : Int)) := by
    obtain ⟨b2, e, h⟩ := hs m (by omega)
    cases e
    exact h
  obtain ⟨d1, hd1e⟩ : ∃ y, digD D (m + 1) = y := ⟨_, rfl⟩
  obtain ⟨d2, hd2e⟩ : ∃ y, digD D m = y := ⟨_, rfl⟩
  have e1 := digD_lt D (m + 1)
  have e2 := digD_lt D m
  rw [← digD_in D (m + 1) (by omega), hd1e] at hcd1
  rw [← digD_in D m (by omega), hd2e] at hcd2
  rw [hd1e] at hd1 hE e1
  rw [hd2e] at hE e2
  have hc0 := own_cell hown (j + (m + 2)) (.int .u32 (digD Q0 (j + (m + 2)) : Int)) (by rw [digD_in _ _ (by omega)]; simp [bv32, show j + (m + 2) < Q0.length by omega])
  have hc1 := own_cell hown (j + (m + 1)) (.int .u32 (digD Q0 (j + (m + 1)) : Int)) (by rw [digD_in _ _ (by omega)]; simp [bv32, show j + (m + 1) < Q0.length by omega])
  have hc2 := own_cell hown (j + m) (.int .u32 (digD Q0 (j + m) : Int)) (by rw [digD_in _ _ (by omega)]; simp [bv32, show j + m < Q0.length by omega])
  have e3 := digD_lt Q0 (j + (m + 2))
  have e4 := digD_lt Q0 (j + (m + 1))
  have e5 := digD_lt Q0 (j + m)
  obtain ⟨t0, ht0⟩ : ∃ y, digD Q0 (j + (m + 2)) = y := ⟨_, rfl⟩
  obtain ⟨t1, ht1⟩ : ∃ y, digD Q0 (j + (m + 1)) = y := ⟨_, rfl⟩
  obtain ⟨t2, ht2⟩ : ∃ y, digD Q0 (j + m) = y := ⟨_, rfl⟩
  rw [ht0] at hc0 e3
  rw [ht1] at hc1 e4
  rw [ht2] at hc2 e5
  rw [show j + m + 2 = j + (m + 2) by omega, show j + m + 1 = j + (m + 1) by omega, ht0, ht1, ht2] at hV
  have hor := or_num t0 t1 e3 e4
  obtain ⟨top, htop⟩ : ∃ y, t0 * 4294967296 + t1 = y := ⟨_, rfl⟩
  rw [htop] at hor hV
  have htop2 : top < 18446744073709551616 := by omega
  have hqd := est_top _ _ _ _ _ _ _ _ _ q hV hlo e5 hE hqle
  obtain ⟨f0, hf0⟩ : ∃ y, min (top / d1) 4294967295 = y := ⟨_, rfl⟩
  have hf1 : f0 < 4294967296 := by omega
  have hf2 : q ≤ f0 := by
    have : q ≤ top / d1 := (Nat.le_div_iff_mul_le hd1).2 hqd
    omega
  have hf3 : f0 * d1 ≤ top := Nat.le_trans (Nat.mul_le_mul_right _ (by omega)) (Nat.div_mul_le_self top d1)
  obtain ⟨x0, hx0⟩ : ∃ y, f0 * d1 = y := ⟨_, rfl⟩
  obtain ⟨k0, hk0⟩ : ∃ y, top / d1 = y := ⟨_, rfl⟩
  have hk1 : k0 < 18446744073709551616 := by rw [← hk0]; exact Nat.lt_of_le_of_lt (Nat.div_le_self _ _) htop2
  have m0 : (top : Int) / (d1 : Int) = (k0 : Int) := by rw [← hk0]; simp
  rw [hk0] at hf0
  have m1 : min (k0 : Int) 4294967295 = (f0 : Int) := by rw [← hf0]; omega
  have m2 : (if (4294967295 : Int) < (k0 : Int) then (4294967295 : Int) else (k0 : Int)) = (f0 : Int) := by rw [← m1]; split <;> omega
  have m3 : (top : Int).tdiv (d1 : Int) = (k0 : Int) := by rw [Int.tdiv_eq_ediv_of_nonneg (by omega)]; exact m0
  have m4 : (f0 : Int) * (d1 : Int) = (x0 : Int) := by rw [← hx0]; simp
  have hdz : ((d1 : Int) == 0) = false := by rw [beq_eq_false_iff_ne]; omega
  have hdz2 : ¬ d1 = 0 := by omega
  rw [hx0] at hf3
  have i1 : ((m + 2 : Nat) : Int) - 1 = ((m + 1 : Nat) : Int) := by omega
  have i2 : ((m + 2 : Nat) : Int) - 2 = (m : Int) := by omega
  have hcd3 : w.cell? ⟨bd.block, bd.off + (m + 1), none⟩ = some (.int .u32 (d1 : Int)) := hcd1
  subst hm
  have HV := Lib.hid hV
  have HE := Lib.hid hE
  have HEP := Lib.hid hEp
  have HQ := Lib.hid hq
  have HQL := Lib.hid hqle
  have HX0 := Lib.hid hx0
  have HLO := Lib.hid hlo
  have HDL := Lib.hid hdl
  have HT0 := Lib.hid ht0
  have HD := Lib.hid hn
  have HNN := Lib.hid hN
  have HLT := Lib.hid hlt
  clear hV hE hEp hqle hx0 hlo hdl ht0 ht1 ht2 htop hk0 hqd hd1e hd2e hlt hP hn hN
  go_enter Tryd.func67, Tryd.ntmps67
  go_wp2
  go_quiet (fail)
  go_wp2
  clear m0 m1 m2 m3 m4 hf0 hk1 hor hdz hdz2 hcd1 hcd3 hc0 hc1
  go_loopw [8, 9] (fun f l wr => EsR top d1 q l f w wr) (fun f _ _ => (intOf f).toNat)
  case atStart => exact ⟨top - x0, f0, by go_num, rfl, hf1, hf2, (by show _ = _; have := HX0.out; omega), _, rfl⟩
  case round =>
    obtain ⟨left, fac, rfl, rfl, hfb, hfq, hle, kk, rfl⟩ := hrel
    obtain ⟨pd, hpd⟩ : ∃ y, fac * d2 = y := ⟨_, rfl⟩
    have hpi : (fac : Int) * (d2 : Int) = (pd : Int) := by rw [← hpd]; simp
    have hpb := mul_lt32 hfb e2
    rw [hpd] at hpb
    have HPD := Lib.hid hpd
    clear hpd
    by_cases hm : left ≤ 4294967295
    · have hmd : decide ((left : Int) ≤ 4294967295) = true := by rw [decide_eq_true_iff]; omega
      have hor := or_num left t2 (by omega) e5
      obtain ⟨u, hu⟩ : ∃ y, left * 4294967296 + t2 = y := ⟨_, rfl⟩
      rw [hu] at hor
      have HU := Lib.hid hu
      have hub : u < 18446744073709551616 := by omega
      clear hu
      by_cases hc : u < pd
      · have hcd : decide ((u : Int) < (pd : Int)) = true := by rw [decide_eq_true_iff]; omega
        have hfp : 0 < fac := by
          rcases Nat.eq_zero_or_pos fac with h | h
          · exfalso; have := HPD.out; subst h; rw [Nat.zero_mul] at this; omega
          · exact h
        go_wp2
        go_quiet (fail)
        go_wp2
        go_roundw
        case rel =>
          refine ⟨left + d1, fac - 1, by go_num, by go_num, by omega, ?_, ?_, _, rfl⟩
          · have := est_step _ _ _ _ _ _ _ _ _ _ _ _ HV.out HLO.out HE.out hle.out (by rw [HU.out, HPD.out]; exact hc) HQL.out
            omega
          · show _ = _
            have h := hle.out
            obtain ⟨f', rfl⟩ : ∃ f', fac = f' + 1 := ⟨fac - 1, by omega⟩
            rw [Nat.add_mul, Nat.one_mul] at h
            rw [Nat.add_sub_cancel]
            omega
        case measure => simp [intOf] <;> omega
      · have hcd : decide ((u : Int) < (pd : Int)) = false := by rw [decide_eq_false_iff_not]; omega
        go_wp2
        go_quiet (fail)
        have HX : Hid (fac * (valD D * pw j) ≤ valD Q0 + valD D * pw j) := est_exit _ _ _ _ _ _ _ _ _ _ _ HV.out HE.out HDL.out hd1 hfb hle.out (by rw [HPD.out]; rw [HU.out]; exact Nat.le_of_not_lt hc)
        clear hpi hpb HPD hle hmd hm hor HU hub hc hcd
        go_wp2
        go_loopw [10, 11, 12, 73] (fun b c _ i wr => SmR w B Q0 D g N cp j fac b c i wr) (fun _ _ _ i _ => m + 2 - (intOf i).toNat)
        case atStart => exact ⟨0, 0, 0, Q0, Nat.zero_le _, rfl, rfl, by omega, rfl, by omega, ⟨HNN.out, by simp [valD_nil], fun z _ => rfl⟩, hown, grownBy_drewN (grownBy_drewN (grownBy_same _ _) _) _⟩
        case round =>
          obtain ⟨p, bb, cr, Q, hp, rfl, rfl, hbb, rfl, hcr, ho, hown2, hg⟩ := hrel
          have hsb := hs.grown hg hlow
          have hDl := HD.out
          have hQl := ho.out.1
          by_cases hlt : p < m + 2
          · obtain ⟨b2, hb2, hcx⟩ := hsb p (by omega)
            cases hb2
            have hjq : j + p < Q.length := by omega
            obtain ⟨z, hz⟩ : ∃ z, digD Q (j + p) = z := ⟨_, rfl⟩
            have hcz := own_cell hown2 (j + p) (.int .u32 (digD Q (j + p) : Int)) (by rw [digD_in _ _ hjq]; simp [bv32, hjq])
            have hfz := hown2.frozenAt (j + p)
            have ez := digD_lt Q (j + p)
            rw [hz] at hcz ez
            obtain ⟨x, hx⟩ : ∃ x, digD D p = x := ⟨_, rfl⟩
            have ex := digD_lt D p
            rw [← digD_in D p (by omega), hx] at hcx
            rw [hx] at ex
            have hsm := mul_lt32 hfb ex
            obtain ⟨s, hs2⟩ : ∃ s, fac * x = s := ⟨_, rfl⟩
            have hsi : (fac : Int) * (x : Int) = (s : Int) := by rw [← hs2]; simp
            rw [hs2] at hsm
            obtain ⟨cc, hcc⟩ : ∃ y, cr + s = y := ⟨_, rfl⟩
            have hci : (cr : Int) + (s : Int) = (cc : Int) := by omega
            have hcb : cc < 18446744073709551616 := by omega
            obtain ⟨lw, hlw⟩ : ∃ y, cc % 4294967296 = y := ⟨_, rfl⟩
            have hlb : lw < 4294967296 := by omega
            have hand : bits .and .u64 (cc : Int) 4294967295 = (lw : Int) := by
              have h := u64_and_nat cc 4294967295 hcb (by omega)
              rw [Nat.and_two_pow_sub_one_eq_mod cc 32] at h
              rw [← hlw]
              exact h
            obtain ⟨v1, v2, w1, w2, hv3, hv4, hv5⟩ := two_subs z lw bb ez hlb hbb
            have HF := Lib.hid (show digD D p = x ∧ fac * x = s ∧ cr + s = cc ∧ cc % 4294967296 = lw ∧ digD Q (j + p) = z ∧ j + p < Q.length from ⟨hx, hs2, hcc, hlw, hz, hjq⟩)
            have HV5 := Lib.hid hv5
            have w3 : IntKind.u64.wrap (v1 : Int) = (v1 : Int) := by rw [← w1, IntKind.wrap_u64, IntKind.wrap_u64]; omega
            clear hx hs2 hcc hlw hz hjq hv5 hDl hQl
            go_wp2
            go_roundw
            case rel =>
              obtain ⟨q1, q2, q3, q4, q5, hlen⟩ := HF.out
              refine ⟨p + 1, v2 / 9223372036854775808, cc / 4294967296, Q.set (j + p) (BitVec.ofNat 32 v2), by have := HD.out; omega, by go_num, by go_num, hv4, by go_num, by omega, ⟨?_, ?_, fun z2 h1 => set_far _ ho.out.2.2 z2 (by omega)⟩, ?_, hg.trans (grownBy_set _ _ _ _)⟩
              · rw [List.length_set]; exact ho.out.1
              · have hv := valD_set Q (j + p) (BitVec.ofNat 32 v2) hlen
                rw [← digD_in Q _ hlen, q5, BitVec.toNat_ofNat] at hv
                rw [show j + (p + 1) = (j + p) + 1 by omega, pw_succ, valD_dig, q1]
                exact sm_num _ _ _ _ _ _ _ _ _ _ _ _ _ _ _ hv ho.out.2.1 (by rw [q2]; exact q3) (by rw [q4]; exact HV5.out) (by rw [pw_add, Nat.mul_comm])
              · rw [bv32_set, toNat32]
                exact own_set hown2 _ _
            case measure => simp [intOf] <;> omega
          · obtain rfl : p = m + 2 := by omega
            have hjq : j + (m + 2) < Q.length := by omega
            have hdz := digD_of (ho.out.2.2 (j + (m + 2)) (Nat.le_refl _))
            rw [HT0.out] at hdz
            have hcz := own_cell hown2 (j + (m + 2)) (.int .u32 (digD Q (j + (m + 2)) : Int)) (by rw [digD_in _ _ hjq]; simp [bv32, hjq])
            rw [hdz] at hcz
            have hfz := hown2.frozenAt (j + (m + 2))
            obtain ⟨v1, v2, w1, w2, hv3, hv4, hv5⟩ := two_subs t0 cr bb e3 hcr hbb
            have w3 : IntKind.u64.wrap (v1 : Int) = (v1 : Int) := by rw [← w1, IntKind.wrap_u64, IntKind.wrap_u64]; omega
            have hnum := ho.out.2.1
            rw [← hDl, List.take_length, hDl] at hnum
            have hfin := sm_fin Q0 D Q j m fac bb cr t0 v2 _ _ hDl (by have := HNN.out; omega) (by rw [hQl, HNN.out]) HLT.out rfl rfl hnum ho.out.2.2 HT0.out hv5 HX.out (by rw [hq]; exact hfq) HEP.out
            rw [hq] at hfin
            have HFIN := Lib.hid hfin
            have HL2 := Lib.hid hQl
            have HJ2 := Lib.hid hjq
            have hown3 := own_set hown2 (j + (m + 2)) (.int .u32 ((v2 : Int) % 4294967296))
            have hg3 := hg.trans (grownBy_set wr g (j + (m + 2)) (.int .u32 ((v2 : Int) % 4294967296)))
            rw [← toNat32 v2, ← bv32_set, toNat32 v2] at hown3
            clear hfin hnum hv5 hQl hjq hDl hdz
            by_cases hvz : v2 / 9223372036854775808 = 0
            · have hvi : (v2 : Int) / 9223372036854775808 = 0 := by omega
              go_wp2
              go_ret
              obtain ⟨k1, k2⟩ := HFIN.out.1 hvz
              exact ⟨by rw [k1, HQ.out]; rfl, _, by rw [List.length_set]; exact HL2.out, k2, hown3, hg3⟩
            · have hvo : v2 / 9223372036854775808 = 1 := by omega
              have hvi : (v2 : Int) / 9223372036854775808 = 1 := by omega
              have hsc := hs.grown hg3 hlow
              obtain ⟨k1, k2⟩ := HFIN.out.2 hvo
              have K2 := Lib.hid k2
              clear k2
              go_wp2_with (go_at_call 76; (with_reducible refine (addback_any B g N cp j (m + 2) c dc (some bd) _ D _ (by rw [List.length_set]; exact HL2.out) HD.out hfit hl hown3 hsc hlow).mono ?_); rintro e wz ⟨rfl, Q2, y, hl2, hy, hqn, hfar2, hown4, hg4⟩)
              go_ret
              exact ⟨by rw [HQ.out]; rfl, Q2, hl2, K2.out Q2 y (by rw [hl2, HL2.out]) hy hqn hfar2, hown4, hg3.trans hg4⟩
    · have hmd : decide ((left : Int) ≤ 4294967295) = false := by rw [decide_eq_false_iff_not]; omega
      go_wp2
      go_quiet (fail)
      have HX : Hid (fac * (valD D * pw j) ≤ valD Q0 + valD D * pw j) := est_exit _ _ _ _ _ _ _ _ _ _ _ HV.out HE.out HDL.out hd1 hfb hle.out (by rw [HPD.out]; exact Nat.le_trans hpb (by omega))
      clear hpi hpb HPD hle hmd hm 
      go_wp2
      go_loopw [10, 11, 12, 73] (fun b c _ i wr => SmR w B Q0 D g N cp j fac b c i wr) (fun _ _ _ i _ => m + 2 - (intOf i).toNat)
      case atStart => exact ⟨0, 0, 0, Q0, Nat.zero_le _, rfl, rfl, by omega, rfl, by omega, ⟨HNN.out, by simp [valD_nil], fun z _ => rfl⟩, hown, grownBy_drewN (grownBy_drewN (grownBy_same _ _) _) _⟩
      case round =>
        obtain ⟨p, bb, cr, Q, hp, rfl, rfl, hbb, rfl, hcr, ho, hown2, hg⟩ := hrel
        have hsb := hs.grown hg hlow
        have hDl := HD.out
        have hQl := ho.out.1
        by_cases hlt : p < m + 2
        · obtain ⟨b2, hb2, hcx⟩ := hsb p (by omega)
          cases hb2
          have hjq : j + p < Q.length := by omega
          obtain ⟨z, hz⟩ : ∃ z, digD Q (j + p) = z := ⟨_, rfl⟩
          have hcz := own_cell hown2 (j + p) (.int .u32 (digD Q (j + p) : Int)) (by rw [digD_in _ _ hjq]; simp [bv32, hjq])
          have hfz := hown2.frozenAt (j + p)
          have ez := digD_lt Q (j + p)
          rw [hz] at hcz ez
          obtain ⟨x, hx⟩ : ∃ x, digD D p = x := ⟨_, rfl⟩
          have ex := digD_lt D p
          rw [← digD_in D p (by omega), hx] at hcx
          rw [hx] at ex
          have hsm := mul_lt32 hfb ex
          obtain ⟨s, hs2⟩ : ∃ s, fac * x = s := ⟨_, rfl⟩
          have hsi : (fac : Int) * (x : Int) = (s : Int) := by rw [← hs2]; simp
          rw [hs2] at hsm
          obtain ⟨cc, hcc⟩ : ∃ y, cr + s = y := ⟨_, rfl⟩
          have hci : (cr : Int) + (s : Int) = (cc : Int) := by omega
          have hcb : cc < 18446744073709551616 := by omega
          obtain ⟨lw, hlw⟩ : ∃ y, cc % 4294967296 = y := ⟨_, rfl⟩
          have hlb : lw < 4294967296 := by omega
          have hand : bits .and .u64 (cc : Int) 4294967295 = (lw : Int) := by
            have h := u64_and_nat cc 4294967295 hcb (by omega)
            rw [Nat.and_two_pow_sub_one_eq_mod cc 32] at h
            rw [← hlw]
            exact h
          obtain ⟨v1, v2, w1, w2, hv3, hv4, hv5⟩ := two_subs z lw bb ez hlb hbb
          have HF := Lib.hid (show digD D p = x ∧ fac * x = s ∧ cr + s = cc ∧ cc % 4294967296 = lw ∧ digD Q (j + p) = z ∧ j + p < Q.length from ⟨hx, hs2, hcc, hlw, hz, hjq⟩)
          have HV5 := Lib.hid hv5
          have w3 : IntKind.u64.wrap (v1 : Int) = (v1 : Int) := by rw [← w1, IntKind.wrap_u64, IntKind.wrap_u64]; omega
          clear hx hs2 hcc hlw hz hjq hv5 hDl hQl
          go_wp2
          go_roundw
          case rel =>
            obtain ⟨q1, q2, q3, q4, q5, hlen⟩ := HF.out
            refine ⟨p + 1, v2 / 9223372036854775808, cc / 4294967296, Q.set (j + p) (BitVec.ofNat 32 v2), by have := HD.out; omega, by go_num, by go_num, hv4, by go_num, by omega, ⟨?_, ?_, fun z2 h1 => set_far _ ho.out.2.2 z2 (by omega)⟩, ?_, hg.trans (grownBy_set _ _ _ _)⟩
            · rw [List.length_set]; exact ho.out.1
            · have hv := valD_set Q (j + p) (BitVec.ofNat 32 v2) hlen
              rw [← digD_in Q _ hlen, q5, BitVec.toNat_ofNat] at hv
              rw [show j + (p + 1) = (j + p) + 1 by omega, pw_succ, valD_dig, q1]
              exact sm_num _ _ _ _ _ _ _ _ _ _ _ _ _ _ _ hv ho.out.2.1 (by rw [q2]; exact q3) (by rw [q4]; exact HV5.out) (by rw [pw_add, Nat.mul_comm])
            · rw [bv32_set, toNat32]
              exact own_set hown2 _ _
          case measure => simp [intOf] <;> omega
        · obtain rfl : p = m + 2 := by omega
          have hjq : j + (m + 2) < Q.length := by omega
          have hdz := digD_of (ho.out.2.2 (j + (m + 2)) (Nat.le_refl _))
          rw [HT0.out] at hdz
          have hcz := own_cell hown2 (j + (m + 2)) (.int .u32 (digD Q (j + (m + 2)) : Int)) (by rw [digD_in _ _ hjq]; simp [bv32, hjq])
          rw [hdz] at hcz
          have hfz := hown2.frozenAt (j + (m + 2))
          obtain ⟨v1, v2, w1, w2, hv3, hv4, hv5⟩ := two_subs t0 cr bb e3 hcr hbb
          have w3 : IntKind.u64.wrap (v1 : Int) = (v1 : Int) := by rw [← w1, IntKind.wrap_u64, IntKind.wrap_u64]; omega
          have hnum := ho.out.2.1
          rw [← hDl, List.take_length, hDl] at hnum
          have hfin := sm_fin Q0 D Q j m fac bb cr t0 v2 _ _ hDl (by have := HNN.out; omega) (by rw [hQl, HNN.out]) HLT.out rfl rfl hnum ho.out.2.2 HT0.out hv5 HX.out (by rw [hq]; exact hfq) HEP.out
          rw [hq] at hfin
          have HFIN := Lib.hid hfin
          have HL2 := Lib.hid hQl
          have HJ2 := Lib.hid hjq
          have hown3 := own_set hown2 (j + (m + 2)) (.int .u32 ((v2 : Int) % 4294967296))
          have hg3 := hg.trans (grownBy_set wr g (j + (m + 2)) (.int .u32 ((v2 : Int) % 4294967296)))
          rw [← toNat32 v2, ← bv32_set, toNat32 v2] at hown3
          clear hfin hnum hv5 hQl hjq hDl hdz
          by_cases hvz : v2 / 9223372036854775808 = 0
          · have hvi : (v2 : Int) / 9223372036854775808 = 0 := by omega
            go_wp2
            go_ret
            obtain ⟨k1, k2⟩ := HFIN.out.1 hvz
            exact ⟨by rw [k1, HQ.out]; rfl, _, by rw [List.length_set]; exact HL2.out, k2, hown3, hg3⟩
          · have hvo : v2 / 9223372036854775808 = 1 := by omega
            have hvi : (v2 : Int) / 9223372036854775808 = 1 := by omega
            have hsc := hs.grown hg3 hlow
            obtain ⟨k1, k2⟩ := HFIN.out.2 hvo
            have K2 := Lib.hid k2
            clear k2
            go_wp2_with (go_at_call 76; (with_reducible refine (addback_any B g N cp j (m + 2) c dc (some bd) _ D _ (by rw [List.length_set]; exact HL2.out) HD.out hfit hl hown3 hsc hlow).mono ?_); rintro e wz ⟨rfl, Q2, y, hl2, hy, hqn, hfar2, hown4, hg4⟩)
            go_ret
            exact ⟨by rw [HQ.out]; rfl, Q2, hl2, K2.out Q2 y (by rw [hl2, HL2.out]) hy hqn hfar2, hown4, hg3.trans hg4⟩
end Go.Proofs.YtcofiekfhnfjpaaDoor

/- PA -/
namespace Go.Proofs.YtcofiekfhnfjpaaDoor
open Go.RowKit
set_option linter.unusedVariables false
set_option linter.unusedSimpArgs false
def ShR (w : World) (X : List (BitVec 32)) (W t : Nat) (g cp : Nat) (i : Value) (wr : World) : Prop := ∃ (p : Nat) (Q : List (BitVec 32)), p ≤ X.length ∧ i = .int .i64 p ∧
  Hid (Q.length = X.length + W + 1 ∧ valD Q = valD (X.take p) * 2 ^ t * pw W ∧ digD Q (p + W) < 2 ^ t ∧ ∀ z, p + W < z → z < Q.length → Q[z]? = some 0#32) ∧
  wr.ownsRow w.heap.size 32 1 (.slice (some ⟨g, 0, none⟩) (X.length + W + 1) cp) (X.length + W + 1) (bv32 Q) ∧ Below w.heap.size w wr
theorem u32_or_add (t q y : Nat) (ht : t ≤ 31) (hq : q < 2 ^ t) (hy : y < 4294967296) (hd : y % 2 ^ t = 0) : bits .or .u32 (q : Int) (y : Int) = ((q + y : Nat) : Int) := by
  have h1 : 2 ^ t ≤ 2 ^ 31 := Nat.pow_le_pow_right (by decide) ht
  rw [u32_or_nat _ _ (by omega) hy, Nat.or_comm, nat_join t _ _ hd hq, Nat.add_comm]
theorem or_sum_lt (t q y : Nat) (ht : t ≤ 31) (hq : q < 2 ^ t) (hy : y < 4294967296) (hd : y % 2 ^ t = 0) : q + y < 4294967296 := by
  have h1 : 2 ^ t ≤ 2 ^ 31 := Nat.pow_le_pow_right (by decide) ht
  have h2 := nat_join t y q hd hq
  have h3 : y ||| q < 2 ^ 32 := Nat.or_lt_two_pow (by omega) (by omega)
  omega
theorem shl_num (V V1 V2 A x y q S P R r : Nat) (h1 : V1 + P * q = V + P * (q + y % 4294967296)) (h2 : V2 = V1 + P * 4294967296 * (y / 4294967296)) (h0 : V = A * S * R) (hP : P = r * R) (hy : x * S = y) : V2 = (A + r * x) * S * R := by
  have h3 := congrArg (P * ·) (Nat.mod_add_div y 4294967296)
  simp only [Nat.mul_add] at h3 h1
  subst hP h0
  rw [h2]
  have h4 : V1 = A * S * R + r * R * (y % 4294967296) := by omega
  rw [h4, ← hy] at *
  grind
theorem sh_mod (x t y : Nat) (ht : t ≤ 31) (hy : x * 2 ^ t = y) : y % 4294967296 % 2 ^ t = 0 := by
  have e : (4294967296 : Nat) = 2 ^ t * 2 ^ (32 - t) := by rw [← Nat.pow_add, show t + (32 - t) = 32 by omega]
  rw [e, Nat.mod_mul_right_mod, ← hy, Nat.mul_mod_left]
set_option maxRecDepth 50000 in
set_option maxHeartbeats 2000000 in
theorem nshl_core (a : Option Addr) (n c s W t : Nat) (v : Int) (l : List (BitVec 32)) (w : World) (hn : l.length = n) (hnc : n ≤ c) (hl : n ≤ 1000000) (hr : Rw w a l) (hv : 0 ≤ v) (hs : s ≤ 4096) (hsv : v ≤ 4096 ∧ v = s ∨ 4096 < v ∧ s = 4096) (hW : s / 32 = W) (ht : s % 32 = t) :
    Calls Tryd.prog 41 #[.slice a n c, .int .i64 v] w (FrR w (canon (valD l * 2 ^ s))) := by
  subst hn
  have f1 := trim_len_le l
  have hrt := hr.trim
  have T1 : ∀ W, Rw W a l → Calls Tryd.prog 47 #[.slice a l.length c] W fun e w' => e = .returned (.slice a (trimD l).length c) ∧ W = w' := fun W h => trim_any a _ c l W rfl hnc (by omega) h
  have H1 := Lib.hid (T1 w hr)
  rw [← valD_trim l]
  clear T1 hr
  generalize trimD l = lt at *
  have hv0 : decide (v < 0) = false := by rw [decide_eq_false_iff_not]; omega
  by_cases h0 : lt.length = 0
  · have e1 : canon (valD lt * 2 ^ s) = [] := by rw [List.length_eq_zero_iff.1 h0, valD_nil, Nat.zero_mul, canon_zero]
    have HE := Lib.hid e1
    rw [h0] at H1
    clear e1 h0 hsv hs
    go_enter Tryd.func41, Tryd.ntmps41
    go_wp2_with (go_at_call 47; (with_reducible refine H1.out.mono ?_); rintro e w1 ⟨rfl, rfl⟩)
    go_ret
    rw [HE.out]
    exact ⟨none, 0, rfl, Nat.le_refl _, ⟨Rw.nil _ _, fun ad h => by cases h⟩, Below.refl _ _⟩
  have hz3 : ((lt.length : Int) == 0) = false := by rw [beq_eq_false_iff_ne]; omega
  have m1 : (if (4096 : Int) < v then (4096 : Int) else v) = (s : Int) := by split <;> omega
  have m2 : min v 4096 = (s : Int) := by omega
  have q1 : (s : Int) / 32 = (W : Int) := by omega
  have q2 : (s : Int) % 32 = (t : Int) := by omega
  have q3 : (s : Int).tdiv 32 = (W : Int) := by rw [Int.tdiv_eq_ediv_of_nonneg (by omega)]; omega
  have q4 : (s : Int).tmod 32 = (t : Int) := by rw [Int.tmod_eq_emod_of_nonneg (by omega)]; omega
  have ht31 : t ≤ 31 := by omega
  have hWb : W ≤ 128 := by omega
  have HS : Hid (s = 32 * W + t) := by show _ = _; omega
  have hmk := run_make_row' (P := Tryd.prog) 22 32 (.int .u32 0) 4 Tryd.underlying22 info32 rfl .i64 .i64 (lt.length + W + 1) (by omega) (by omega)
  have hcast : ((lt.length + W + 1 : Nat) : Int) = (lt.length : Int) + (W : Int) + 1 := by omega
  rw [hcast] at hmk
  clear hcast hW ht hsv hs hv
  go_enter Tryd.func41, Tryd.ntmps41
  go_wp2_with (go_at_call 47; (with_reducible refine H1.out.mono ?_); rintro e w1 ⟨rfl, rfl⟩)
  go_loopw [8, 9, 34] (fun _ _ i wr => ShR w lt W t w.heap.size (lt.length + W + 1) i wr) (fun _ _ i _ => lt.length - (intOf i).toNat)
  case atStart =>
    refine ⟨0, zer (lt.length + W + 1), Nat.zero_le _, rfl, ⟨by simp [zer], by simp [zer, valD_zeros, valD_nil], ?_, ?_⟩, made32 w _ (by omega), Below.alloc (Below.refl _ _) (Nat.le_refl _) _⟩
    · have : digD (zer (lt.length + W + 1)) (0 + W) = 0 := by rw [digD_in _ _ (by simp [zer]; omega)]; simp [zer]
      rw [this]; exact Nat.two_pow_pos t
    · intro z _ hz
      rw [zer, List.getElem?_replicate, if_pos (by simpa [zer] using hz)]
  case round =>
    obtain ⟨p, Q, hp, rfl, hq, hown, hb⟩ := hrel
    by_cases hlt : p < lt.length
    · obtain ⟨ad, rfl, hc0⟩ := hrt.below hb p hlt
      obtain ⟨x, hx⟩ : ∃ x, lt[p].toNat = x := ⟨_, rfl⟩
      have e1 := lt[p].isLt
      rw [hx] at hc0 e1
      have HX : Hid (digD lt p = x) := by show _ = _; rw [digD_in _ _ hlt, hx]
      have hQl := hq.out.1
      have hpw : p + W < Q.length := by omega
      have hpw1 : p + W + 1 < Q.length := by omega
      obtain ⟨qd, hqd⟩ : ∃ z, Q[p + W].toNat = z := ⟨_, rfl⟩
      have hcq := own_cell hown (p + W) (.int .u32 (Q[p + W].toNat : Int)) (by simp [bv32, hpw])
      have hfq := hown.frozenAt (p + W)
      have hz1 := hq.out.2.2.2 (p + W + 1) (by omega) hpw1
      have hcz := own_cell hown (p + W + 1) (.int .u32 0) (by rw [bv32, List.getElem?_map, hz1]; rfl)
      have hfz := hown.frozenAt (p + W + 1)
      have hqlt := hq.out.2.2.1
      rw [digD_in _ _ hpw, hqd] at hqlt
      rw [hqd] at hcq
      have ep : 2 ^ t ≤ 2147483648 := Nat.le_trans (Nat.pow_le_pow_right (by decide) ht31) (by decide)
      have hy0 : x * 2 ^ t ≤ 9223372034707292160 := Nat.le_trans (Nat.mul_le_mul (Nat.le_of_lt_succ e1) ep) (by decide)
      obtain ⟨y, hy⟩ : ∃ y, x * 2 ^ t = y := ⟨_, rfl⟩
      have hyi : (x : Int) * 2 ^ t = (y : Int) := by rw [← hy]; push_cast; rfl
      rw [hy] at hy0
      have hor := u32_or_add t qd (y % 4294967296) ht31 hqlt (Nat.mod_lt _ (by decide)) (sh_mod x t y ht31 hy)
      have hor2 : bits .or .u32 (qd : Int) ((y : Int) % 4294967296) = ((qd + y % 4294967296 : Nat) : Int) := by rw [← hor]; congr 1
      have ht0 : decide ((t : Int) < 0) = false := by rw [decide_eq_false_iff_not]; omega
      have w1 : IntKind.i64.wrap ((p : Int) + (W : Int)) = (p : Int) + (W : Int) := IntWalk.i64_in _ (by omega)
      have HY := Lib.hid hy
      have HPW := Lib.hid hpw
      have HQT := Lib.hid hqlt
      have hsum := or_sum_lt t qd (y % 4294967296) ht31 hqlt (Nat.mod_lt _ (by decide)) (sh_mod x t y ht31 hy)
      have hyq : y / 4294967296 < 2 ^ t := by
        rw [Nat.div_lt_iff_lt_mul (by decide), ← hy, Nat.mul_comm]
        exact Nat.mul_lt_mul_of_pos_left (by omega) (Nat.two_pow_pos t)
      have HSUM := Lib.hid hsum
      have HYQ := Lib.hid hyq
      have HQD : Hid (Q[p + W]? = some (BitVec.ofNat 32 qd)) := by
        show _ = _
        rw [List.getElem?_eq_getElem hpw]
        exact congrArg some (BitVec.eq_of_toNat_eq (by rw [hqd, BitVec.toNat_ofNat]; omega))
      have HZ1 := Lib.hid hz1
      have hqd32 : qd < 4294967296 := by have := Q[p + W].isLt; omega
      clear hsum hyq hz1
      clear hy ep hx hqlt hor hqd hpw hpw1 hQl
      go_wp2
      go_roundw
      case rel =>
        have hl1 := HPW.out
        have hl2 : p + W + 1 < Q.length := by rw [hq.out.1]; omega
        have ed1 : (BitVec.ofNat 32 (qd + y % 4294967296)).toNat = qd + y % 4294967296 := by rw [BitVec.toNat_ofNat]; have := HSUM.out; omega
        have ed2 : (BitVec.ofNat 32 (y / 4294967296)).toNat = y / 4294967296 := by rw [BitVec.toNat_ofNat]; omega
        have hl3 : p + W + 1 < (Q.set (p + W) (BitVec.ofNat 32 (qd + y % 4294967296))).length := by rw [List.length_set]; exact hl2
        refine ⟨p + 1, (Q.set (p + W) (BitVec.ofNat 32 (qd + y % 4294967296))).set (p + W + 1) (BitVec.ofNat 32 (y / 4294967296)), by omega, by go_num, ⟨?_, ?_, ?_, ?_⟩, ?_, ?_⟩
        · rw [List.length_set, List.length_set]; exact hq.out.1
        · have v1 := valD_set Q (p + W) (BitVec.ofNat 32 (qd + y % 4294967296)) hl1
          have v2 := valD_set (Q.set (p + W) (BitVec.ofNat 32 (qd + y % 4294967296))) (p + W + 1) (BitVec.ofNat 32 (y / 4294967296)) hl3
          have g1 := HQD.out
          rw [List.getElem?_eq_getElem hl1] at g1
          have g2 := HZ1.out
          rw [List.getElem?_eq_getElem hl2] at g2
          have g3 : (Q.set (p + W) (BitVec.ofNat 32 (qd + y % 4294967296)))[p + W + 1] = 0#32 := by
            rw [List.getElem_set_ne (by omega)]
            exact Option.some.inj g2
          have e00 : (0#32).toNat = 0 := rfl
          have eq0 : (BitVec.ofNat 32 qd).toNat = qd := by rw [BitVec.toNat_ofNat]; omega
          rw [Option.some.inj g1, ed1, eq0] at v1
          rw [g3, ed2, e00, Nat.mul_zero, Nat.add_zero, pw_succ] at v2
          rw [valD_dig, HX.out]
          exact shl_num _ _ _ _ _ _ _ _ _ _ _ v1 v2 hq.out.2.1 (pw_add _ _) HY.out
        · rw [show p + 1 + W = p + W + 1 by omega, digD_in _ _ (by rw [List.length_set]; exact hl3), List.getElem_set_self, ed2]
          exact HYQ.out
        · intro z h1 h2
          rw [List.length_set, List.length_set] at h2
          rw [List.getElem?_set_ne (by omega), List.getElem?_set_ne (by omega)]
          exact hq.out.2.2.2 z (by omega) h2
        · have o1 := own_set hown (p + W) (.int .u32 ((qd : Int) + (y : Int) % 4294967296))
          have o2 := own_set o1 (p + W + 1) (.int .u32 ((y : Int) / 4294967296))
          rw [bv32_set, bv32_set, ed1, ed2]
          rw [show (((qd + y % 4294967296 : Nat)) : Int) = (qd : Int) + (y : Int) % 4294967296 by omega, show (((y / 4294967296 : Nat)) : Int) = (y : Int) / 4294967296 by omega]
          exact o2
        · exact Below.setCell (Below.setCell hb (p := ⟨w.heap.size, p + W, none⟩) (Nat.le_refl _) _) (p := ⟨w.heap.size, p + W + 1, none⟩) (Nat.le_refl _) _
      case measure => simp [intOf] <;> omega
    · obtain rfl : p = lt.length := by omega
      have hval : Hid (trimD Q = canon (valD lt * 2 ^ s)) := by
        show _ = _
        rw [← canon_val, hq.out.2.1, List.take_length, pw_two, Nat.mul_assoc, ← Nat.pow_add, show t + 32 * W = s by have := HS.out; omega]
      have hF := RwF.of_own hown
      have hF1 := hF.1
      have HL := Lib.hid hq.out.1
      go_wp2_with (go_at_call 47; (with_reducible refine (trim_any _ _ _ Q _ HL.out (Nat.le_refl _) (by have := HL.out; omega) hF1).mono ?_); rintro e wz ⟨rfl, rfl⟩; rw [hval.out])
      go_ret
      have h5 := hF.take (trimD Q).length
      rw [← trim_prefix, hval.out] at h5
      refine ⟨_, _, rfl, ?_, h5, hb⟩
      have := trim_len_le Q
      rw [hval.out, HL.out] at this
      exact this
end Go.Proofs.YtcofiekfhnfjpaaDoor

/- PB -/
namespace Go.Proofs.YtcofiekfhnfjpaaDoor
open Go.RowKit
set_option linter.unusedVariables false
set_option linter.unusedSimpArgs false
def SrR (w : World) (l : List (BitVec 32)) (s N : Nat) (g cp : Nat) (i : Value) (wr : World) : Prop := ∃ (p : Nat) (Q : List (BitVec 32)), p ≤ N ∧ i = .int .i64 p ∧
  Hid (Q.length = N ∧ valD (Q.take p) = (valD l / 2 ^ s) % pw p) ∧
  wr.ownsRow w.heap.size 32 1 (.slice (some ⟨g, 0, none⟩) N cp) N (bv32 Q) ∧ Below w.heap.size w wr
theorem or_joinN (x y : Nat) (hx : x < 4294967296) (hy : y < 4294967296) : bits .or .u64 (x : Int) ((y : Int) * 4294967296) = ((y * 4294967296 + x : Nat) : Int) := by
  rw [show ((y : Int) * 4294967296) = ((y * 4294967296 : Nat) : Int) by omega, u64_or_nat _ _ (by omega) (by omega), Nat.or_comm, nat_join 32 _ _ (by omega) (by omega)]
set_option maxRecDepth 50000 in
set_option maxHeartbeats 2000000 in
theorem nshr_core (a : Option Addr) (n c s W t : Nat) (v : Int) (l : List (BitVec 32)) (w : World) (hn : l.length = n) (hl : n ≤ 1000000) (hr : Rw w a l) (hvn : -v = (s : Int)) (hsb : s ≤ 9223372036854775808) (h0 : 0 < s) (hW : s / 32 = W) (ht : s % 32 = t) :
    Calls Tryd.prog 58 #[.slice a n c, .int .i64 v] w (FrR w (canon (valD l / 2 ^ s))) := by
  subst hn
  by_cases hout : 32 * l.length ≤ s
  · have e1 : canon (valD l / 2 ^ s) = [] := by
      rw [Nat.div_eq_of_lt, canon_zero]
      refine Nat.lt_of_lt_of_le (valD_lt l) ?_
      rw [pw_two]
      exact Nat.pow_le_pow_right (by decide) hout
    have HE := Lib.hid e1
    have hc : v ≤ -(l.length : Int) * 32 := by omega
    have hc1 : decide (v ≤ -(l.length : Int) * 32) = true := by rw [decide_eq_true_iff]; exact hc
    clear e1 hW ht
    go_enter Tryd.func58, Tryd.ntmps58
    go_wp2
    go_ret
    rw [HE.out]
    exact ⟨none, 0, rfl, Nat.le_refl _, ⟨Rw.nil _ _, fun ad h => by cases h⟩, Below.refl _ _⟩
  have hc : ¬ v ≤ -(l.length : Int) * 32 := by omega
  have hc1 : decide (v ≤ -(l.length : Int) * 32) = false := by rw [decide_eq_false_iff_not]; exact hc
  have q1 : (s : Int) / 32 = (W : Int) := by omega
  have q2 : (s : Int) % 32 = (t : Int) := by omega
  have q3 : (s : Int).tdiv 32 = (W : Int) := by rw [Int.tdiv_eq_ediv_of_nonneg (by omega)]; omega
  have q4 : (s : Int).tmod 32 = (t : Int) := by rw [Int.tmod_eq_emod_of_nonneg (by omega)]; omega
  have ws : IntKind.i64.wrap (s : Int) = s := IntWalk.i64_in _ (by omega)
  have ht31 : t ≤ 31 := by omega
  have hWl : W < l.length := by omega
  have HS : Hid (s / 32 = W ∧ s % 32 = t ∧ s < 32 * l.length) := ⟨hW, ht, by omega⟩
  obtain ⟨N, hN⟩ : ∃ N, l.length - W = N := ⟨_, rfl⟩
  have hNW : (l.length : Int) - (W : Int) = (N : Int) := by omega
  have hNl : N + W = l.length := by omega
  have hmk := run_make_row' (P := Tryd.prog) 22 32 (.int .u32 0) 4 Tryd.underlying22 info32 rfl .i64 .i64 N (by omega) (by omega)
  have ht0 : decide ((t : Int) < 0) = false := by rw [decide_eq_false_iff_not]; omega
  clear hW ht hout hN hsb
  go_enter Tryd.func58, Tryd.ntmps58
  go_wp2
  go_loopw [8, 9, 29] (fun _ _ i wr => SrR w l s N w.heap.size N i wr) (fun _ _ i _ => N - (intOf i).toNat)
  case atStart =>
    exact ⟨0, zer N, Nat.zero_le _, rfl, ⟨by simp [zer], by rw [pw_zero, Nat.mod_one]; rfl⟩, made32 w _ (by omega), Below.alloc (Below.refl _ _) (Nat.le_refl _) _⟩
  case round =>
    obtain ⟨p, Q, hp, rfl, hq, hown, hb⟩ := hrel
    by_cases hlt : p < N
    · have hpl : p + W < l.length := by omega
      obtain ⟨ad, rfl, hc0⟩ := hr.below hb (p + W) hpl
      obtain ⟨x, hx⟩ : ∃ x, l[p + W].toNat = x := ⟨_, rfl⟩
      have e1 := l[p + W].isLt
      rw [hx] at hc0 e1
      have hX : digD l (p + W) = x := by rw [digD_in _ _ hpl, hx]
      have hpQ : p < Q.length := by rw [hq.out.1]; exact hlt
      have hcq := own_cell hown p (.int .u32 (Q[p].toNat : Int)) (by simp [bv32, hpQ])
      obtain ⟨qq, hqq⟩ : ∃ z, Q[p].toNat = z := ⟨_, rfl⟩
      rw [hqq] at hcq
      have hfq := hown.frozenAt p
      have HP := Lib.hid hpQ
      have w1 : IntKind.i64.wrap ((p : Int) + (W : Int)) = (p : Int) + (W : Int) := IntWalk.i64_in _ (by omega)
      obtain ⟨K, hK⟩ : ∃ K, p + W + 1 = K := ⟨_, rfl⟩
      have hKi : (p : Int) + (W : Int) + 1 = (K : Int) := by omega
      have w2 : IntKind.i64.wrap ((p : Int) + (W : Int) + 1) = (K : Int) := by rw [hKi]; exact IntWalk.i64_in _ (by omega)
      have w3 : IntKind.i64.wrap (K : Int) = (K : Int) := IntWalk.i64_in _ (by omega)
      have HK := Lib.hid hK
      clear hx hqq hpQ hK
      by_cases hlt2 : K < l.length
      · skip
        have h2 : K < l.length := hlt2
        have h2d : decide ((K : Int) < (l.length : Int)) = true := by rw [decide_eq_true_iff]; omega
        have hc1 : wr.cell? (ad.add K) = some (.int .u32 (l[K].toNat : Int)) := by
          obtain ⟨ad2, e, h⟩ := hr.below hb K h2
          cases e
          exact h
        obtain ⟨y, hy⟩ : ∃ y, l[K].toNat = y := ⟨_, rfl⟩
        have e2 := l[K].isLt
        rw [hy] at hc1 e2
        have hY : digD l (p + W + 1) = y := by rw [HK.out, digD_in _ _ h2, hy]
        have hor := or_joinN x y e1 e2
        obtain ⟨d, hd⟩ : ∃ d, y * 4294967296 + x = d := ⟨_, rfl⟩
        rw [hd] at hor
        have hdd : digD l (p + W + 1) * 4294967296 + digD l (p + W) = d := by rw [hY, hX]; exact hd
        have hd64 : d < 18446744073709551616 := by omega
        clear hd hY hy
        obtain ⟨t2, ht2⟩ : ∃ t2, d / 2 ^ t = t2 := ⟨_, rfl⟩
        have hdt : (d : Int) / 2 ^ t = (t2 : Int) := by rw [← ht2]; push_cast; rfl
        have HDD := Lib.hid hdd
        have HT2 := Lib.hid ht2
        clear hdd ht2 hX
        go_wp2
        go_roundw
        case rel =>
          have hl1 := HP.out
          refine ⟨p + 1, Q.set p (BitVec.ofNat 32 t2), by omega, by go_num, ⟨?_, ?_⟩, ?_, ?_⟩
          · rw [List.length_set]; exact hq.out.1
          · have hh := HDD.out
            rw [← Nat.add_comm W p, ← HS.out.1] at hh
            rw [valD_set_take _ _ _ hl1, BitVec.toNat_ofNat, hq.out.2, ← HT2.out]
            exact (shr_num l s p _ t HS.out.2.1 hh).symm
          · have o1 := own_set hown p (.int .u32 ((t2 : Int) % 4294967296))
            rw [bv32_set, show ((BitVec.ofNat 32 t2).toNat : Int) = (t2 : Int) % 4294967296 from toNat32 t2]
            exact o1
          · exact Below.setCell hb (p := ⟨w.heap.size, p, none⟩) (Nat.le_refl _) _
        case measure => simp [intOf] <;> omega
      · skip
        have h2 : ¬ K < l.length := hlt2
        have hdd : digD l (p + W + 1) * 4294967296 + digD l (p + W) = x := by rw [digD_out _ _ (by rw [HK.out]; exact Nat.le_of_not_lt h2), hX, Nat.zero_mul, Nat.zero_add]
        have h2d : decide ((K : Int) < (l.length : Int)) = false := by rw [decide_eq_false_iff_not]; omega
        obtain ⟨t2, ht2⟩ : ∃ t2, x / 2 ^ t = t2 := ⟨_, rfl⟩
        have hdt : (x : Int) / 2 ^ t = (t2 : Int) := by rw [← ht2]; push_cast; rfl
        have HDD := Lib.hid hdd
        have HT2 := Lib.hid ht2
        clear hdd ht2 hX
        go_wp2
        go_roundw
        case rel =>
          have hl1 := HP.out
          refine ⟨p + 1, Q.set p (BitVec.ofNat 32 t2), by omega, by go_num, ⟨?_, ?_⟩, ?_, ?_⟩
          · rw [List.length_set]; exact hq.out.1
          · have hh := HDD.out
            rw [← Nat.add_comm W p, ← HS.out.1] at hh
            rw [valD_set_take _ _ _ hl1, BitVec.toNat_ofNat, hq.out.2, ← HT2.out]
            exact (shr_num l s p _ t HS.out.2.1 hh).symm
          · have o1 := own_set hown p (.int .u32 ((t2 : Int) % 4294967296))
            rw [bv32_set, show ((BitVec.ofNat 32 t2).toNat : Int) = (t2 : Int) % 4294967296 from toNat32 t2]
            exact o1
          · exact Below.setCell hb (p := ⟨w.heap.size, p, none⟩) (Nat.le_refl _) _
        case measure => simp [intOf] <;> omega
    · obtain rfl : p = N := by omega
      have hval : Hid (trimD Q = canon (valD l / 2 ^ s)) := by
        show _ = _
        have h := hq.out.2
        rw [List.take_of_length_le (by rw [hq.out.1]; exact Nat.le_refl _)] at h
        rw [← canon_val, h]
        congr 1
        apply Nat.mod_eq_of_lt
        have h1 := valD_lt l
        have h3 : pw l.length ≤ pw p * 2 ^ s := by
          rw [pw_two, pw_two, ← Nat.pow_add]
          exact Nat.pow_le_pow_right (by decide) (by have := HS.out; omega)
        exact Nat.div_lt_of_lt_mul (by rw [Nat.mul_comm]; omega)
      have hF := RwF.of_own hown
      have hF1 := hF.1
      have HL := Lib.hid hq.out.1
      go_wp2_with (go_at_call 47; (with_reducible refine (trim_any _ _ _ Q _ HL.out (Nat.le_refl _) (by have := HL.out; omega) hF1).mono ?_); rintro e wz ⟨rfl, rfl⟩; rw [hval.out])
      go_ret
      have h5 := hF.take (trimD Q).length
      rw [← trim_prefix, hval.out] at h5
      refine ⟨_, _, rfl, ?_, h5, hb⟩
      have := trim_len_le Q
      rw [hval.out, HL.out] at this
      exact this
end Go.Proofs.YtcofiekfhnfjpaaDoor

/- Ls -/

namespace Go.Proofs.YtcofiekfhnfjpaaDoor
open Go.RowKit
set_option linter.unusedVariables false
set_option linter.unusedSimpArgs false
def shV (V : Nat) (v : Int) : Nat := if 0 ≤ v then V * 2 ^ (min v.toNat 4096) else V / 2 ^ v.natAbs
theorem nshift_any (a : Option Addr) (n c : Nat) (v : Int) (l : List (BitVec 32)) (w : World) (hn : l.length = n) (hnc : n ≤ c) (hl : n ≤ 1000000) (hr : Rw w a l) (hv0 : -9223372036854775808 ≤ v) :
    Calls Tryd.prog 41 #[.slice a n c, .int .i64 v] w (FrR w (canon (shV (valD l) v))) := by
  by_cases h : 0 ≤ v
  · unfold shV
    rw [if_pos h]
    exact nshl_core a n c (min v.toNat 4096) _ _ v l w hn hnc hl hr h (Nat.min_le_right _ _) (by omega) rfl rfl
  · subst hn
    have f1 := trim_len_le l
    have hrt := hr.trim
    have T1 : ∀ W, Rw W a l → Calls Tryd.prog 47 #[.slice a l.length c] W fun e w' => e = .returned (.slice a (trimD l).length c) ∧ W = w' := fun W h => trim_any a _ c l W rfl hnc (by omega) h
    have H1 := Lib.hid (T1 w hr)
    unfold shV
    rw [if_neg h, ← valD_trim l]
    clear T1 hr
    generalize trimD l = lt at *
    have H2 := Lib.hid (nshr_core a _ c v.natAbs _ _ v lt w rfl (by omega) hrt (by omega) (by omega) (by omega) rfl rfl)
    have hlt : decide (v < 0) = true := by rw [decide_eq_true_iff]; omega
    obtain ⟨s, hs⟩ : ∃ s, v.natAbs = s := ⟨_, rfl⟩
    rw [hs] at H2 ⊢
    clear hs
    go_enter Tryd.func41, Tryd.ntmps41
    go_wp2_with (first
      | (go_at_call 47; (with_reducible refine H1.out.mono ?_); rintro e w1 ⟨rfl, rfl⟩)
      | (go_at_call 58; (with_reducible refine H2.out.mono ?_); rintro e w2 ⟨a1, c1, rfl, h2, h3, h4⟩))
    go_ret
    exact ⟨a1, c1, rfl, h2, h3, h4⟩
end Go.Proofs.YtcofiekfhnfjpaaDoor

/- PF -/
namespace Go.Proofs.YtcofiekfhnfjpaaDoor
open Go.RowKit
set_option linter.unusedVariables false
set_option linter.unusedSimpArgs false
theorem shV_up (V s : Nat) (hs : s ≤ 31) : shV V (s : Int) = V * 2 ^ s := by
  unfold shV
  rw [if_pos (by omega), show min (s : Int).toNat 4096 = s by omega]
theorem shV_down (V s : Nat) (hs : s ≤ 31) : shV (V * 2 ^ s) (-(s : Int)) = V := by
  unfold shV
  rcases Nat.eq_zero_or_pos s with h | h
  · subst h; simp
  · rw [if_neg (by omega), show (-(s : Int)).natAbs = s by omega, Nat.mul_div_cancel _ (Nat.two_pow_pos s)]
/-- The shift of the divisor keeps its length. -/
theorem ld_shift (k : List (BitVec 32)) (m s : Nat) (hm : k.length = m) (h0 : 0 < m) (ht : trimD k = k) (x : Nat) (hx : digD k (m - 1) = x) (hs : 32 - Lib.bitLen x = s) :
    s ≤ 31 ∧ (canon (valD k * 2 ^ s)).length = m ∧ pw (m - 1) ≤ valD k ∧ (32 - (Lib.bitLen x : Int)) = (s : Int) := by
  subst hm
  have hp := valD_len k ht h0
  have hx0 : 0 < x := by
    have h := top_pos (valD k)
    rw [canon_val, ht] at h
    rw [← hx]
    exact h h0
  have hx1 : x < 4294967296 := by rw [← hx]; exact digD_lt _ _
  have hb := isBl_len hx1
  have hb32 := isBl_32 hx1 hb
  obtain ⟨hb1, hb2⟩ := hb.2.2 hx0
  have hk := isBl_top k h0 (Lib.bitLen x) (by rw [← digD_in k _ (by omega), hx]; exact hb) (by rw [← digD_in k _ (by omega), hx]; omega)
  refine ⟨by omega, ?_, hp, by omega⟩
  have h1 : valD k * 2 ^ s < pw k.length := by
    rw [pw_two, show 32 * k.length = (32 * (k.length - 1) + Lib.bitLen x) + s by omega, Nat.pow_add 2 (32 * (k.length - 1) + Lib.bitLen x)]
    exact Nat.mul_lt_mul_of_pos_right hk.1 (Nat.two_pow_pos s)
  have h2 := (canon_len_le _ _).2 h1
  rcases Nat.lt_or_ge (canon (valD k * 2 ^ s)).length k.length with h | h
  · exfalso
    have h3 := (canon_len_le (valD k * 2 ^ s) (k.length - 1)).1 (by omega)
    have h4 : valD k * 1 ≤ valD k * 2 ^ s := Nat.mul_le_mul_left _ (Nat.two_pow_pos s)
    omega
  · omega
theorem ld_step (A X : Nat) : A / X = A / (X * 4294967296) * 4294967296 + A % (X * 4294967296) / X := by
  rw [Nat.mod_mul_right_div_self, ← Nat.div_div_eq_div_mul, Nat.mul_comm]
  exact (Nat.div_add_mod _ _).symm
theorem bv32_take (l : List (BitVec 32)) (n : Nat) : (bv32 l).take n = bv32 (l.take n) := by simp [bv32, List.map_take]
theorem bv32_drop (l : List (BitVec 32)) (n : Nat) : (bv32 l).drop n = bv32 (l.drop n) := by simp [bv32, List.map_drop]
theorem own_all {W : World} {g N : Nat} {l : List (BitVec 32)} {B : Nat} (h : W.heap[g]? = some (.cells (bv32 l).toArray 32 (0, 0))) (hl : l.length = N) (hB : B ≤ g) (hN : N ≤ 1000000) : W.ownsRow B 32 1 (.slice (some ⟨g, 0, none⟩) N N) N (bv32 l) := by
  refine ⟨by rw [bv32_len, hl, Nat.mul_one], .inr ⟨g, N, (bv32 l).toArray, rfl, hB, h, Nat.le_refl _, by unfold maxLen; omega, by simp [bv32_len, hl], ?_⟩⟩
  rw [Nat.mul_one]
  exact List.take_of_length_le (by simp [bv32_len, hl])
theorem made_cells (n : Nat) : madeCells #[Value.int .u32 0] n = (bv32 (zer n)).toArray := by
  apply Array.ext
  · simp [madeCells, bv32, zer]
  · intro i h1 h2
    simp [madeCells, bv32, zer, Nat.mod_one]
theorem splice_zer (N : Nat) (A : List (BitVec 32)) : splice (bv32 (zer N)) 0 (bv32 A) = bv32 (A ++ zer (N - A.length)) := by
  unfold splice
  rw [List.take_zero, List.nil_append, Nat.zero_add, bv32_len, bv32_drop, bv32_append]
  congr 2
  simp [zer, List.drop_replicate]
theorem size32 : (Tryd.prog.info? 32).map (·.size) = some 1 := by kernel_rfl
theorem ld_start (A K n m M s : Nat) (hM : n + 1 = m + M) (hm : 0 < m) (hA : A < pw n) (hK : pw (m - 1) ≤ K) : A * 2 ^ s < K * 2 ^ s * pw M := by
  have h1 : A * 2 ^ s < pw n * 2 ^ s := Nat.mul_lt_mul_of_pos_right hA (Nat.two_pow_pos s)
  have h2 : pw (m - 1) * (2 ^ s * pw M) ≤ K * (2 ^ s * pw M) := Nat.mul_le_mul_right _ hK
  have h3 : pw n = pw (m - 1) * pw M := by rw [← pw_add, show m - 1 + M = n by omega]
  rw [h3] at h1
  rw [Nat.mul_assoc]
  have h4 : pw (m - 1) * pw M * 2 ^ s = pw (m - 1) * (2 ^ s * pw M) := by rw [Nat.mul_assoc, Nat.mul_comm (pw M)]
  omega
/-- A halt of the walk. -/
structure Stand (p : Prop) : Prop where
  out : p
theorem Stop.mk {p : Prop} (h : Stand p) : p := h.out
/-- The rest and the quotient, p places still to come. -/
def LdR (w : World) (A N M g g2 : Nat) (D : List (BitVec 32)) (b1 : Option Addr) (i : Value) (wr : World) : Prop := ∃ (p : Nat) (Q K : List (BitVec 32)), p ≤ M ∧ i = .int .i64 ((p : Int) - 1) ∧
  Hid (Q.length = N ∧ K.length = M ∧ valD Q = A % (valD D * pw p) ∧ valD K = A / (valD D * pw p) * pw p ∧ ∀ z, z < p → K[z]? = some 0#32) ∧
  wr.ownsRow w.heap.size 32 1 (.slice (some ⟨g, 0, none⟩) N N) N (bv32 Q) ∧ wr.ownsRow w.heap.size 32 1 (.slice (some ⟨g2, 0, none⟩) M M) M (bv32 K) ∧ Rw wr b1 D ∧ Below w.heap.size w wr
set_option maxRecDepth 50000 in
set_option maxHeartbeats 2000000 in
theorem longdiv_any (a b : Option Addr) (n c m d : Nat) (l k : List (BitVec 32)) (w : World) (hn : l.length = n) (hm : k.length = m) (hnc : n ≤ c) (hmd : m ≤ d) (hl : n ≤ 900000) (h2 : 2 ≤ m) (hmn : m ≤ n) (ht : trimD k = k) (hr : Rw w a l) (hs : Rw w b k) :
    Calls Tryd.prog 57 #[.slice a n c, .slice b m d] w fun e w' => ∃ a1 c1 a2 c2, e = .returned (.tuple #[.slice a1 (canon (valD l / valD k)).length c1, .slice a2 (canon (valD l % valD k)).length c2]) ∧ (canon (valD l / valD k)).length ≤ c1 ∧ (canon (valD l % valD k)).length ≤ c2 ∧ RwF w.heap.size w' a1 (canon (valD l / valD k)) ∧ RwF w.heap.size w' a2 (canon (valD l % valD k)) ∧ Below w.heap.size w w' := by
  obtain ⟨x, hx⟩ : ∃ x, digD k (m - 1) = x := ⟨_, rfl⟩
  obtain ⟨s, hsx⟩ : ∃ s, 32 - Lib.bitLen x = s := ⟨_, rfl⟩
  obtain ⟨hs31, hDl, hkp, hsi⟩ := ld_shift k m s hm (by omega) ht x hx hsx
  obtain ⟨bd, rfl, hcx⟩ := hs (m - 1) (by omega)
  have ex := digD_lt k (m - 1)
  rw [← digD_in k _ (by omega), hx] at hcx
  rw [hx] at ex
  have HLZ : ∀ W, Calls Tryd.prog 66 #[.int .u32 x] W fun e w' => e = .returned (.int .i64 s) ∧ W = w' := by
    intro W
    have h := Tryd.bits_LeadingZeros32 (x : Int) W (by omega) (by omega)
    rw [Int.toNat_natCast, hsi] at h
    exact h.mono fun _ _ h => ⟨h.1, h.2.symm⟩
  have HS1 := nshift_any (some bd) m d s k w hm hmd (by omega) hs (by omega)
  rw [shV_up _ _ hs31] at HS1
  have HL := Lib.hid hn
  have HK := Lib.hid hm
  have HKP := Lib.hid hkp
  have HT := Lib.hid ht
  obtain ⟨D, hD⟩ : ∃ D, canon (valD k * 2 ^ s) = D := ⟨_, rfl⟩
  rw [hD] at HS1 hDl
  unfold FrR at HS1
  rw [hDl] at HS1
  have HD := Lib.hid hD
  have HDL := Lib.hid hDl
  clear hn hm hkp ht hD hDl hsx hsi hx
  have hmk := run_make_row' (P := Tryd.prog) 22 32 (.int .u32 0) 4 Tryd.underlying22 info32 rfl .i64 .i64 (n + 1) (by omega) (by omega)
  have hcast : ((n + 1 : Nat) : Int) = (n : Int) + 1 := by omega
  rw [hcast] at hmk
  clear hcast
  obtain ⟨A, hA⟩ : ∃ A, valD l * 2 ^ s = A := ⟨_, rfl⟩
  obtain ⟨A', hA'⟩ : ∃ L, canon A = L := ⟨_, rfl⟩
  have hAl : A'.length ≤ n + 1 := by
    rw [← hA', canon_len_le, pw_succ, ← hA]
    have h1 := valD_lt l
    rw [HL.out] at h1
    have h2 : 2 ^ s ≤ 2 ^ 32 := Nat.pow_le_pow_right (by decide) (by omega)
    exact Nat.lt_of_lt_of_le (Nat.mul_lt_mul_of_pos_right h1 (Nat.two_pow_pos s)) (Nat.mul_le_mul_left _ h2)
  have HS2 : ∀ W, Rw W a l → Calls Tryd.prog 41 #[.slice a n c, .int .i64 s] W (FrR W A') := by
    intro W h
    have h2 := nshift_any a n c s l W HL.out hnc (by omega) h (by omega)
    rw [shV_up _ _ hs31, hA, hA'] at h2
    exact h2
  have HA := Lib.hid hA
  have HA' := Lib.hid hA'
  obtain ⟨M, hM⟩ : ∃ M, n + 1 = m + M := ⟨n + 1 - m, by omega⟩
  have hMi : (n : Int) + 1 - (m : Int) = (M : Int) := by omega
  have hmk2 := run_make_row' (P := Tryd.prog) 22 32 (.int .u32 0) 4 Tryd.underlying22 info32 rfl .i64 .i64 M (by omega) (by omega)
  have HM := Lib.hid hM
  have hMM : M ≤ 1000000 := by omega
  clear hA hA' hM
  go_enter Tryd.func57, Tryd.ntmps57
  go_wp2_with (first
    | (go_at_call 66; (with_reducible refine (HLZ _).mono ?_); rintro e w1 ⟨rfl, rfl⟩)
    | (go_at_call 41; (with_reducible refine HS1.mono ?_); rintro e w1 ⟨b1, c1, rfl, hc1, hf1, hb1⟩)
    | (go_at_call 41; (with_reducible refine (HS2 _ ((hr.below hb1).below (Below.alloc (Below.refl _ _) (Nat.le_refl _) _))).mono ?_); rintro e w3 ⟨a2, c2, rfl, hc2, hf2, hb2⟩)
    | (with_reducible show wpList _ _ _ (⟨some 30, _, _, _, _, _⟩ :: _) _ _; with_reducible refine Stop.mk ?_))
  refine ⟨?_⟩
  refine wpList_copy_splice rfl (.tmp 26) (.tmp 29) 22 22 rfl 32 Tryd.underlying22 size32 (some ⟨w1.heap.size, 0, none⟩) a2 (n + 1) (n + 1) A'.length c2 (by rfl) (by rfl) w1.heap.size 0 (bv32 (zer (n + 1))) 32 ?hg (bv32 A') ?hn ?hpos ?hfit (bv32_one _) w1.heap.size w3 (Below.refl _ _) (Nat.le_refl _) ?_
  case hg =>
    have h := hb2.block w1.heap.size (by simp)
    rw [h, heap_alloc_new, made_cells]
  case hn => rw [bv32_len]; exact (Nat.min_eq_left hAl).symm
  case hpos =>
    intro h0
    rw [bv32_len] at h0
    obtain ⟨ad, rfl, _⟩ := hf2.1 0 h0
    exact ⟨rfl, ad, rfl, hf2.1.news⟩
  case hfit => rw [bv32_len, bv32_len, Nat.zero_add]; simp [zer]; exact hAl
  intro w4 hrow hb4
  have hrow2 := hrow.out
  rw [splice_zer] at hrow2
  have hb13 : Below w1.heap.size w1 w3 := (Below.alloc (Below.refl _ _) (Nat.le_refl _) _).trans (hb2.mono (by simp))
  have hb14 := hb13.trans hb4
  have hbw := hb1.trans (hb14.mono hb1.size)
  have hDw := hf1.1.below hb14
  have hlow : ∀ ad, b1 = some ad → some ad.block ≠ some w1.heap.size := by
    intro ad e h
    obtain ⟨a0, e0, hc0⟩ := hf1.1 0 (by rw [HDL.out]; omega)
    rw [e] at e0
    cases e0
    have := World.block_lt_of_cell? w1 _ hc0
    rw [block_add] at this
    injection h with h
    omega
  have hQ0l : (A' ++ zer (n + 1 - A'.length)).length = n + 1 := by rw [List.length_append]; simp [zer]; omega
  have hQ0v : valD (A' ++ zer (n + 1 - A'.length)) = A := by
    rw [valD_append]
    unfold zer
    rw [valD_zeros, Nat.mul_zero, Nat.add_zero, ← HA'.out, valD_canon]
  have hown := own_all hrow2 hQ0l hb1.size (by omega)
  have hDv : valD D = valD k * 2 ^ s := by rw [← HD.out, valD_canon]
  have hAlt : A < valD D * pw M := by
    rw [hDv, ← HA.out]
    exact ld_start _ _ n m M s HM.out (by omega) (by have := valD_lt l; rwa [HL.out] at this) HKP.out
  obtain ⟨Q0, hQ0⟩ : ∃ Q0, A' ++ zer (n + 1 - A'.length) = Q0 := ⟨_, rfl⟩
  rw [hQ0] at hown hQ0l hQ0v
  have HQ0 := Lib.hid (show Q0.length = n + 1 ∧ valD Q0 = A ∧ A < valD D * pw M from ⟨hQ0l, hQ0v, hAlt⟩)
  have HDV := Lib.hid hDv
  obtain ⟨g, hg⟩ : ∃ g, w1.heap.size = g := ⟨_, rfl⟩
  have hgw : w.heap.size ≤ g := by have := hb1.size; omega
  have hg4 : g < w4.heap.size := by have := hb2.size; have := hb4.size; simp at *; omega
  rw [hg] at hown hlow ⊢
  clear hf1 hf2 hb2 hb4 hb13 hb14 hrow hrow2 HS2 HLZ HS1 hQ0 hQ0l hQ0v hAlt hDv hmk hcx hg hc2 hAl HA'
  obtain ⟨m2, hm2⟩ : ∃ m2, m = m2 + 2 := ⟨m - 2, by omega⟩
  have HM2 := Lib.hid hm2
  clear hm2
  have hd1 : 0 < digD D (m2 + 1) := by
    have h := top_pos (valD k * 2 ^ s)
    rw [HD.out, HDL.out, HM2.out] at h
    exact h (by omega)
  have HD1 := Lib.hid hd1
  have hDpos : 0 < valD D := by
    have h := valD_take D (m2 + 1) (by rw [HDL.out, HM2.out]; omega)
    rw [← digD_in, show m2 + 1 + 1 = D.length by rw [HDL.out, HM2.out], List.take_length] at h
    have h3 : pw (m2 + 1) * 1 ≤ pw (m2 + 1) * digD D (m2 + 1) := Nat.mul_le_mul_left _ hd1
    have h4 := pw_pos (m2 + 1)
    omega
  have HDP := Lib.hid hDpos
  clear hd1 hDpos
  obtain ⟨g2, hg2⟩ : ∃ g2, w4.heap.size = g2 := ⟨_, rfl⟩
  have hm4 := made32 w4 M (by omega)
  rw [hg2] at hm4
  have hm4' := own_mono hm4 (base' := w.heap.size) (by omega)
  have ho4 := hown.alloc (.cells (madeCells #[Value.int .u32 0] M) 32)
  have hb4 := Below.alloc hbw hbw.size (.cells (madeCells #[Value.int .u32 0] M) 32)
  have hD4 := hDw.below (Below.alloc (Below.refl w4.heap.size w4) (Nat.le_refl _) (.cells (madeCells #[Value.int .u32 0] M) 32))
  have hg24 : g < g2 := by omega
  have hlow2 : ∀ ad, b1 = some ad → some ad.block ≠ some g2 := by
    intro ad e h
    obtain ⟨a0, e0, hc0⟩ := hDw 0 (by rw [HDL.out]; omega)
    rw [e] at e0
    cases e0
    have := World.block_lt_of_cell? w4 _ hc0
    rw [block_add] at this
    injection h with h
    omega
  have hgne : (Value.slice (some ⟨g2, 0, none⟩) M M).ownBlock ≠ some g := by intro h; have h2 : g2 = g := Option.some.inj h; omega
  have hgnf : (Value.slice (some ⟨g, 0, none⟩) (n + 1) (n + 1)).ownBlock ≠ some g2 := by intro h; have h2 : g = g2 := Option.some.inj h; omega
  clear hm4
  go_wp2
  go_loopw [11] (fun i wr => LdR w A (n + 1) M g g2 D b1 i wr) (fun i _ => (intOf i + 1).toNat)
  case atStart =>
    obtain ⟨k1, k2, k3⟩ := HQ0.out
    exact ⟨M, Q0, zer M, Nat.le_refl _, rfl, ⟨k1, by simp [zer], by rw [k2, Nat.mod_eq_of_lt k3], by rw [Nat.div_eq_of_lt k3, Nat.zero_mul]; exact valD_zeros M, fun z hz => by rw [zer, List.getElem?_replicate, if_pos hz]⟩, ho4, hm4', hD4, hb4⟩
  case round =>
    obtain ⟨p, Q, K, hp, rfl, hq, hoQ, hoK, hDr, hbr⟩ := hrel
    rcases Nat.eq_zero_or_pos p with rfl | hp0
    · obtain ⟨q1, q2, q3, q4, q5⟩ := hq.out
      rw [pw_zero, Nat.mul_one] at q3 q4
      rw [Nat.mul_one, ← HA.out, HDV.out] at q4
      rw [← HA.out, HDV.out] at q3
      rw [Nat.mul_div_mul_right _ _ (Nat.two_pow_pos s)] at q4
      rw [Nat.mul_mod_mul_right] at q3
      have hK : Hid (trimD K = canon (valD l / valD k)) := by show _ = _; rw [← canon_val, q4]
      have hFK := RwF.of_own hoK
      have hFQ := RwF.of_own hoQ
      have hK5 := hFK.take (trimD K).length
      rw [← trim_prefix, hK.out] at hK5
      have hKl := trim_len_le K
      rw [hK.out, q2] at hKl
      have hQl := trim_len_le Q
      rw [q1] at hQl
      have HSH := nshift_any (some ⟨g, 0, none⟩) (trimD Q).length (n + 1) (-(s : Int)) (trimD Q) wr rfl hQl (by omega) hFQ.1.trim (by omega)
      rw [valD_trim, q3, shV_down _ _ hs31] at HSH
      have TK := trim_any (some ⟨g2, 0, none⟩) M M K wr q2 (Nat.le_refl _) (by rw [q2]; omega) hFK.1
      rw [hK.out] at TK
      have TQ := trim_any (some ⟨g, 0, none⟩) (n + 1) (n + 1) Q wr q1 (Nat.le_refl _) (by rw [q1]; omega) hFQ.1
      obtain ⟨tl, htl⟩ : ∃ t, (trimD Q).length = t := ⟨_, rfl⟩
      rw [htl] at HSH TQ
      have H1 := Lib.hid TK
      have H2 := Lib.hid TQ
      have H3 := Lib.hid HSH
      clear TK TQ HSH q1 q2 q3 q4 q5 htl hQl
      go_wp2_with (first
        | (go_at_call 47; (with_reducible refine H1.out.mono ?_); rintro e w1 ⟨rfl, rfl⟩)
        | (go_at_call 47; (with_reducible refine H2.out.mono ?_); rintro e w1 ⟨rfl, rfl⟩)
        | (go_at_call 41; (with_reducible refine H3.out.mono ?_); rintro e w9 ⟨a9, c9, rfl, hc9, hf9, hb9⟩))
      go_ret2
      exact ⟨some ⟨g2, 0, none⟩, M, a9, c9, rfl, hKl, hc9, hK5.below hb9, hf9.mono hbr.size, hbr.trans (hb9.mono hbr.size)⟩
    · obtain ⟨j, rfl⟩ : ∃ j, p = j + 1 := ⟨p - 1, by omega⟩
      obtain ⟨q1, q2, q3, q4, q5⟩ := hq.out
      have hlt : valD Q < valD D * pw (j + 1) := by rw [q3]; exact Nat.mod_lt _ (Nat.mul_pos HDP.out (pw_pos _))
      have HSM := fun c => subm_any w.heap.size g (n + 1) (n + 1) j m2 m c c1 b1 Q D wr q1 HDL.out HM2.out (by have := HM.out; omega) (by omega) hoQ hDr hlow HD1.out hlt
      obtain ⟨qv, hqv⟩ : ∃ qv, valD Q / (valD D * pw j) = qv := ⟨_, rfl⟩
      simp only [hqv] at HSM
      have hqvb : qv < 4294967296 := by
        rw [← hqv, Nat.div_lt_iff_lt_mul (Nat.mul_pos HDP.out (pw_pos _)), Nat.mul_comm, Nat.mul_assoc, ← pw_succ]
        exact hlt
      have HSM' := Lib.hid HSM
      have HQV := Lib.hid hqv
      have hjK : j < K.length := by omega
      have hz0 := q5 j (by omega)
      have HZ0 := Lib.hid hz0
      have HJK := Lib.hid hjK
      have hjn : j + m < n + 1 := by have := HM.out; omega
      have hjm : j + m + 1 - j = m + 1 := by omega
      clear HSM hqv q1 q2 q3 q4 q5 hlt
      go_wp2_with (go_at_call 67; go_loud ((with_reducible refine (HSM'.out _).mono ?_); rintro e w6 ⟨rfl, Q2, hq2l, hq2v, hoQ2, hgr⟩; have hoK2 := hoK.kept hgr (.inr hgne); have hck := own_cell hoK2 j (.int .u32 0) (by rw [bv32, List.getElem?_map, HZ0.out]; rfl); have hfk := hoK2.frozenAt j))
      go_roundw
      case rel =>
        obtain ⟨q1, q2, q3, q4, q5⟩ := hq.out
        have hgs := grownBy_set w6 g2 j (.int .u32 (qv : Int))
        have hDX : valD D * pw (j + 1) = valD D * pw j * 4294967296 := by rw [pw_succ, Nat.mul_assoc]
        refine ⟨j, Q2, K.set j (BitVec.ofNat 32 qv), by omega, rfl, ⟨hq2l, by rw [List.length_set]; exact q2, ?_, ?_, ?_⟩, hoQ2.kept hgs (.inr hgnf), ?_, (hDr.grown hgr hlow).grown hgs hlow2, ?_⟩
        · rw [hq2v, q3, hDX, Nat.mod_mul_right_mod]
        · have hv := valD_set K j (BitVec.ofNat 32 qv) HJK.out
          have e00 : (0#32).toNat = 0 := rfl
          rw [get_of HZ0.out HJK.out, e00, Nat.mul_zero, Nat.add_zero, BitVec.toNat_ofNat, Nat.mod_eq_of_lt hqvb, q4] at hv
          have e1 : A / (valD D * pw j) = A / (valD D * pw (j + 1)) * 4294967296 + qv := by rw [hDX, ← HQV.out, q3, hDX]; exact ld_step _ _
          rw [hv, e1]
          generalize A / (valD D * pw (j + 1)) = u
          rw [pw_succ]
          grind
        · intro z hz
          rw [List.getElem?_set_ne (by omega)]
          exact q5 z (by omega)
        · rw [bv32_set, show ((BitVec.ofNat 32 qv).toNat : Int) = (qv : Int) by rw [toNat32]; omega]
          exact own_set hoK2 _ _
        · exact Below.setCell (hbr.grown hgr hbr.size (fun k e => by injection e with e; omega)) (p := ⟨g2, j, none⟩) (by show _ ≤ g2; omega) _
      case measure => simp [intOf] <;> omega
end Go.Proofs.YtcofiekfhnfjpaaDoor

/- PC -/
namespace Go.Proofs.YtcofiekfhnfjpaaDoor
open Go.RowKit
set_option linter.unusedVariables false
set_option linter.unusedSimpArgs false
set_option maxRecDepth 50000 in
theorem to64_big (a : Option Addr) (n c : Nat) (w : World) (h2 : 2 < n) (hn : n ≤ 1000000) :
    Calls Tryd.prog 55 #[.slice a n c] w fun e w' => e = .returned (.tuple #[.int .u64 0, .bool false]) ∧ ∃ k, w' = w.drewN k := by
  have h0 : ((n : Int) == 0) = false := by rw [beq_eq_false_iff_ne]; omega
  have h1 : ((n : Int) == 1) = false := by rw [beq_eq_false_iff_ne]; omega
  have h3 : ((n : Int) == 2) = false := by rw [beq_eq_false_iff_ne]; omega
  go_enter Tryd.func55, Tryd.ntmps55
  go_wp2
  go_ret2
  exact ⟨rfl, 0, rfl⟩
end Go.Proofs.YtcofiekfhnfjpaaDoor

/- PG -/
namespace Go.Proofs.YtcofiekfhnfjpaaDoor
open Go.RowKit
set_option linter.unusedVariables false
set_option linter.unusedSimpArgs false
/-- The answer of a division. -/
def DmR (w : World) (V U : Nat) (e : Ending) (w' : World) : Prop := ∃ a1 c1 a2 c2, e = .returned (.tuple #[.slice a1 (canon (V / U)).length c1, .slice a2 (canon (V % U)).length c2, .int .i64 0]) ∧ (canon (V / U)).length ≤ c1 ∧ (canon (V % U)).length ≤ c2 ∧ RwF w.heap.size w' a1 (canon (V / U)) ∧ RwF w.heap.size w' a2 (canon (V % U)) ∧ Below w.heap.size w w'
theorem own_or (W : World) (B : Nat) (a : Option Addr) (n c : Nat) (xs : List Value) (h : W.ownsRow B 32 1 (.slice a n c) n xs) (hn : 0 < n) : ∃ g, a = some ⟨g, 0, none⟩ ∧ B ≤ g := own_form h hn
theorem cell_first {w : World} {b0 : Addr} {kt : List (BitVec 32)} {y : Nat} (h : Rw w (some b0) kt) (hl : kt.length = 1) (hv : valD kt = y) : w.cell? b0 = some (.int .u32 (y : Int)) := by
  obtain ⟨x, rfl⟩ := List.length_eq_one_iff.1 hl
  obtain ⟨_, e, hc⟩ := h 0 (by simp)
  cases e
  subst hv
  rw [show ((valD [x] : Nat) : Int) = (x.toNat : Int) by simp [valD_cons, valD_nil]]
  exact hc
set_option maxRecDepth 50000 in
set_option maxHeartbeats 2000000 in
theorem ndm_zero (a b : Option Addr) (n c m d : Nat) (l k : List (BitVec 32)) (w : World) (hn : l.length = n) (hm : k.length = m) (hnc : n ≤ c) (hmd : m ≤ d) (hl : n ≤ 900000) (hl2 : m ≤ 900000) (hr : Rw w a l) (hs : Rw w b k) (hz : valD k = 0) :
    Calls Tryd.prog 39 #[.slice a n c, .slice b m d] w fun e w' => e = .returned (.tuple #[.slice none 0 0, .slice none 0 0, .int .i64 9]) ∧ w = w' := by
  subst hn hm
  have f1 := trim_len_le l
  have f2 := trim_len_le k
  have hrt := hr.trim
  have hst := hs.trim
  have t1 : trimD (trimD l) = trimD l := by rw [← canon_val l, trim_canon]
  have t2 : trimD (trimD k) = trimD k := by rw [← canon_val k, trim_canon]
  have T1 : ∀ W, Rw W a l → Calls Tryd.prog 47 #[.slice a l.length c] W fun e w' => e = .returned (.slice a (trimD l).length c) ∧ W = w' := fun W h => trim_any a _ c l W rfl hnc (by omega) h
  have T2 : ∀ W, Rw W b k → Calls Tryd.prog 47 #[.slice b k.length d] W fun e w' => e = .returned (.slice b (trimD k).length d) ∧ W = w' := fun W h => trim_any b _ d k W rfl hmd (by omega) h
  have H1 := Lib.hid (T1 w hr)
  have H2 := Lib.hid (T2 w hs)
  have HT1 := Lib.hid t1
  have HT2 := Lib.hid t2
  have hk : trimD k = [] := by rw [← canon_val, hz, canon_zero]
  rw [hk] at H2
  clear T1 T2 hr hs hz t1 t2
  go_enter Tryd.func39, Tryd.ntmps39
  go_wp2_with (first
    | (go_at_call 47; (with_reducible refine H1.out.mono ?_); rintro e w1 ⟨rfl, rfl⟩)
    | (go_at_call 47; (with_reducible refine H2.out.mono ?_); rintro e w1 ⟨rfl, rfl⟩))
  go_ret3
  exact ⟨rfl, rfl⟩
set_option maxRecDepth 50000 in
set_option maxHeartbeats 2000000 in
theorem ndm_lt (a b : Option Addr) (n c m d : Nat) (l k : List (BitVec 32)) (w : World) (hn : l.length = n) (hm : k.length = m) (hnc : n ≤ c) (hmd : m ≤ d) (hl : n ≤ 900000) (hl2 : m ≤ 900000) (hr : Rw w a l) (hs : Rw w b k) (hlt : valD l < valD k) :
    Calls Tryd.prog 39 #[.slice a n c, .slice b m d] w (DmR w (valD l) (valD k)) := by
  have hpos : 0 < valD k := by omega
  have hq : canon (valD l / valD k) = [] := by rw [Nat.div_eq_of_lt hlt, canon_zero]
  have hm2 : canon (valD l % valD k) = trimD l := by rw [Nat.mod_eq_of_lt hlt, canon_val]
  unfold DmR
  rw [hq, hm2]
  subst hn hm
  have f1 := trim_len_le l
  have f2 := trim_len_le k
  have hrt := hr.trim
  have hst := hs.trim
  have t1 : trimD (trimD l) = trimD l := by rw [← canon_val l, trim_canon]
  have t2 : trimD (trimD k) = trimD k := by rw [← canon_val k, trim_canon]
  have T1 : ∀ W, Rw W a l → Calls Tryd.prog 47 #[.slice a l.length c] W fun e w' => e = .returned (.slice a (trimD l).length c) ∧ W = w' := fun W h => trim_any a _ c l W rfl hnc (by omega) h
  have T2 : ∀ W, Rw W b k → Calls Tryd.prog 47 #[.slice b k.length d] W fun e w' => e = .returned (.slice b (trimD k).length d) ∧ W = w' := fun W h => trim_any b _ d k W rfl hmd (by omega) h
  have H1 := Lib.hid (T1 w hr)
  have H2 := Lib.hid (T2 w hs)
  have HT1 := Lib.hid t1
  have HT2 := Lib.hid t2
  have hkl : 0 < (trimD k).length := by
    have := canon_len_pos hpos
    rwa [canon_val] at this
  have hkz : ((trimD k).length == 0) = false := by rw [beq_eq_false_iff_ne]; omega
  have hkzi : (((trimD k).length : Int) == 0) = false := by rw [beq_eq_false_iff_ne]; omega
  have hcmp := Lib.hid (cmpN_lt hlt)
  rw [← valD_trim l, ← valD_trim k] at hcmp
  clear T1 T2 hr hs hlt t1 t2 hq hm2 hpos
  generalize trimD l = lt at *
  generalize trimD k = kt at *
  go_enter Tryd.func39, Tryd.ntmps39
  go_wp2_with (first
    | (go_at_call 47; (with_reducible refine H1.out.mono ?_); rintro e w1 ⟨rfl, rfl⟩)
    | (go_at_call 47; (with_reducible refine H2.out.mono ?_); rintro e w1 ⟨rfl, rfl⟩)
    | (go_at_call 28; (with_reducible refine (ncmp_any a b _ c _ d lt kt _ rfl rfl (by omega) (by omega) (by omega) (by omega) hrt hst).mono ?_); rintro e wb ⟨rfl, hw1⟩; have hb0 := drew_below hw1; have hz0 := hb0.size; have hrb := hrt.below hb0; have hsb := hst.below hb0; clear hw1; rw [hcmp.out])
    | (go_at_call 54; (with_reducible refine (clone32_any a _ c lt _ rfl (by omega) hrb).mono ?_); rintro e w2 ⟨a1, c1, rfl, hown1, hb1⟩))
  go_ret3
  exact ⟨none, 0, a1, c1, rfl, Nat.le_refl _, own_cap hown1, ⟨Rw.nil _ _, fun ad h => by cases h⟩, (RwF.of_own hown1).mono hz0, hb0.trans (hb1.mono hz0)⟩
set_option maxRecDepth 50000 in
set_option maxHeartbeats 2000000 in
theorem ndm_long (a b : Option Addr) (n c m d : Nat) (l k : List (BitVec 32)) (w : World) (hn : l.length = n) (hm : k.length = m) (hnc : n ≤ c) (hmd : m ≤ d) (hl : n ≤ 900000) (hl2 : m ≤ 900000) (hr : Rw w a l) (hs : Rw w b k) (hge : valD k ≤ valD l) (hbig : 2 < (trimD l).length) (h2 : 2 ≤ (trimD k).length) :
    Calls Tryd.prog 39 #[.slice a n c, .slice b m d] w (DmR w (valD l) (valD k)) := by
  have hpos : 0 < valD k := by
    rcases Nat.eq_zero_or_pos (valD k) with h | h
    · rw [← canon_val, h, canon_zero] at h2
      simp at h2
    · exact h
  subst hn hm
  have f1 := trim_len_le l
  have f2 := trim_len_le k
  have hrt := hr.trim
  have hst := hs.trim
  have t1 : trimD (trimD l) = trimD l := by rw [← canon_val l, trim_canon]
  have t2 : trimD (trimD k) = trimD k := by rw [← canon_val k, trim_canon]
  have T1 : ∀ W, Rw W a l → Calls Tryd.prog 47 #[.slice a l.length c] W fun e w' => e = .returned (.slice a (trimD l).length c) ∧ W = w' := fun W h => trim_any a _ c l W rfl hnc (by omega) h
  have T2 : ∀ W, Rw W b k → Calls Tryd.prog 47 #[.slice b k.length d] W fun e w' => e = .returned (.slice b (trimD k).length d) ∧ W = w' := fun W h => trim_any b _ d k W rfl hmd (by omega) h
  have H1 := Lib.hid (T1 w hr)
  have H2 := Lib.hid (T2 w hs)
  have HT1 := Lib.hid t1
  have HT2 := Lib.hid t2
  have hkl : 0 < (trimD k).length := by
    have := canon_len_pos hpos
    rwa [canon_val] at this
  have hkz : ((trimD k).length == 0) = false := by rw [beq_eq_false_iff_ne]; omega
  have hkzi : (((trimD k).length : Int) == 0) = false := by rw [beq_eq_false_iff_ne]; omega
  rw [← valD_trim l, ← valD_trim k] at hge
  rw [← valD_trim k] at hpos
  rw [← valD_trim l, ← valD_trim k]
  obtain ⟨cv, hcv, hcv2⟩ := cmpN_ge hge
  have hcmp := Lib.hid hcv
  have hkn : (trimD k).length ≤ (trimD l).length := by
    rcases Nat.lt_or_ge (trimD l).length (trimD k).length with h | h
    · have := valD_len_lt _ _ t2 h
      omega
    · exact h
  have hk1 : (((trimD k).length : Int) == 1) = false := by rw [beq_eq_false_iff_ne]; omega
  clear T1 T2 hr hs hge t1 t2 hcv hpos
  generalize trimD l = lt at *
  generalize trimD k = kt at *
  go_enter Tryd.func39, Tryd.ntmps39
  go_wp2_with (first
    | (go_at_call 47; (with_reducible refine H1.out.mono ?_); rintro e w1 ⟨rfl, rfl⟩)
    | (go_at_call 47; (with_reducible refine H2.out.mono ?_); rintro e w1 ⟨rfl, rfl⟩)
    | (go_at_call 28; (with_reducible refine (ncmp_any a b _ c _ d lt kt _ rfl rfl (by omega) (by omega) (by omega) (by omega) hrt hst).mono ?_); rintro e wb ⟨rfl, hw1⟩; have hb0 := drew_below hw1; have hz0 := hb0.size; have hrb := hrt.below hb0; have hsb := hst.below hb0; clear hw1; rw [hcmp.out])
    | (go_at_call 55; (with_reducible refine (to64_big a _ c _ hbig (by omega)).mono ?_); rintro e wc ⟨rfl, hw2⟩; have hb1 := drew_below hw2; have hbc := hb0.trans (hb1.mono hz0); have hzc := hbc.size; have hrc := hrb.below hb1; have hsc := hsb.below hb1; clear hw2)
    | (go_at_call 57; (with_reducible refine (longdiv_any a b _ c _ d lt kt _ rfl rfl (by omega) (by omega) (by omega) h2 hkn HT2.out hrc hsc).mono ?_); rintro e wd ⟨a1, c1, a2, c2, rfl, hc1, hc2, hf1, hf2, hbd⟩))
  go_ret3
  exact ⟨a1, c1, a2, c2, rfl, hc1, hc2, hf1.mono hzc, hf2.mono hzc, hbc.trans (hbd.mono hzc)⟩
theorem one_digit {kt : List (BitVec 32)} (h : kt.length = 1) (ht : trimD kt = kt) : ∃ y : Nat, 0 < y ∧ y < 4294967296 ∧ kt = [BitVec.ofNat 32 y] ∧ valD kt = y := by
  obtain ⟨x, rfl⟩ := List.length_eq_one_iff.1 h
  have hx := x.isLt
  refine ⟨x.toNat, ?_, hx, by simp, by simp [valD_cons, valD_nil]⟩
  rcases Nat.eq_zero_or_pos x.toNat with h | h
  · exfalso
    have : x = 0#32 := BitVec.eq_of_toNat_eq (by simpa using h)
    subst this
    simp [trimD] at ht
  · exact h
set_option maxRecDepth 50000 in
set_option maxHeartbeats 2000000 in
theorem ndm_one (a b : Option Addr) (n c m d : Nat) (l k : List (BitVec 32)) (w : World) (hn : l.length = n) (hm : k.length = m) (hnc : n ≤ c) (hmd : m ≤ d) (hl : n ≤ 900000) (hl2 : m ≤ 900000) (hr : Rw w a l) (hs : Rw w b k) (hge : valD k ≤ valD l) (hbig : 2 < (trimD l).length) (h2 : (trimD k).length = 1) :
    Calls Tryd.prog 39 #[.slice a n c, .slice b m d] w (DmR w (valD l) (valD k)) := by
  have hpos : 0 < valD k := by
    rcases Nat.eq_zero_or_pos (valD k) with h | h
    · rw [← canon_val, h, canon_zero] at h2
      simp at h2
    · exact h
  subst hn hm
  have f1 := trim_len_le l
  have f2 := trim_len_le k
  have hrt := hr.trim
  have hst := hs.trim
  have t1 : trimD (trimD l) = trimD l := by rw [← canon_val l, trim_canon]
  have t2 : trimD (trimD k) = trimD k := by rw [← canon_val k, trim_canon]
  have T1 : ∀ W, Rw W a l → Calls Tryd.prog 47 #[.slice a l.length c] W fun e w' => e = .returned (.slice a (trimD l).length c) ∧ W = w' := fun W h => trim_any a _ c l W rfl hnc (by omega) h
  have T2 : ∀ W, Rw W b k → Calls Tryd.prog 47 #[.slice b k.length d] W fun e w' => e = .returned (.slice b (trimD k).length d) ∧ W = w' := fun W h => trim_any b _ d k W rfl hmd (by omega) h
  have H1 := Lib.hid (T1 w hr)
  have H2 := Lib.hid (T2 w hs)
  have HT1 := Lib.hid t1
  have HT2 := Lib.hid t2
  have hkl : 0 < (trimD k).length := by
    have := canon_len_pos hpos
    rwa [canon_val] at this
  have hkz : ((trimD k).length == 0) = false := by rw [beq_eq_false_iff_ne]; omega
  have hkzi : (((trimD k).length : Int) == 0) = false := by rw [beq_eq_false_iff_ne]; omega
  rw [← valD_trim l, ← valD_trim k] at hge
  rw [← valD_trim k] at hpos
  rw [← valD_trim l, ← valD_trim k]
  obtain ⟨cv, hcv, hcv2⟩ := cmpN_ge hge
  have hcmp := Lib.hid hcv
  have hkn : (trimD k).length ≤ (trimD l).length := by
    rcases Nat.lt_or_ge (trimD l).length (trimD k).length with h | h
    · have := valD_len_lt _ _ t2 h
      omega
    · exact h
  obtain ⟨y, hy0, hy1, hky, hyv⟩ := one_digit h2 t2
  rw [hyv]
  rw [hyv] at hcv hcmp
  rw [h2] at H2
  have hc0 : Rw w b [BitVec.ofNat 32 y] := hky ▸ hst
  obtain ⟨b0, rfl, hc1⟩ := hc0 0 (by simp)
  have hc2 : w.cell? b0 = some (.int .u32 (y : Int)) := by
    rw [show ((y : Nat) : Int) = (([BitVec.ofNat 32 y][0]).toNat : Int) by simp; omega]
    exact hc1
  clear T1 T2 hr hs hge t1 t2 hcv hpos hc1 hc0 hkz hkzi hkl
  have hyn : valD (trimD k) = y := hyv
  have HY := Lib.hid hyv
  clear hyv hyn hky
  generalize trimD l = lt at *
  generalize trimD k = kt at *
  obtain ⟨V, hV⟩ : ∃ V, valD lt = V := ⟨_, rfl⟩
  have HV := Lib.hid hV
  rw [hV]
  rw [hV] at hcmp
  obtain ⟨rv, hrv⟩ : ∃ r, V % y = r := ⟨_, rfl⟩
  obtain ⟨qv, hqv⟩ : ∃ r, V / y = r := ⟨_, rfl⟩
  have hrb2 : rv < y := by rw [← hrv]; exact Nat.mod_lt _ hy0
  unfold DmR
  rw [hrv, hqv]
  have HRV := Lib.hid hrv
  have HQV := Lib.hid hqv
  have G := Lib.hid (nfromR rv (by omega))
  clear hV hrv hqv
  go_enter Tryd.func39, Tryd.ntmps39
  have HC := ncmp_any a (some b0) _ c 1 d lt kt w rfl h2 (by omega) (by omega) (by omega) (by omega) hrt hst
  simp only [HV.out, HY.out, hcmp.out] at HC
  have HC' := Lib.hid HC
  clear HC
  go_wp2_with (first
    | (go_at_call 47; (with_reducible refine H1.out.mono ?_); rintro e w1 ⟨rfl, rfl⟩)
    | (go_at_call 47; (with_reducible refine H2.out.mono ?_); rintro e w1 ⟨rfl, rfl⟩)
    | (go_at_call 28; (with_reducible refine HC'.out.mono ?_); rintro e wb ⟨rfl, hw1⟩; have hb0 := drew_below hw1; have hz0 := hb0.size; have hrb := hrt.below hb0; have hsb := hst.below hb0; clear hw1)
    | (go_at_call 55; (with_reducible refine (to64_big a _ c _ hbig (by omega)).mono ?_); rintro e wc ⟨rfl, hw2⟩; have hb1 := drew_below hw2; have hbc := hb0.trans (hb1.mono hz0); have hzc := hbc.size; have hrc := hrb.below hb1; have hsc := hsb.below hb1; clear hw2)
    | (go_at_call 54; go_loud ((with_reducible refine (clone32_any a _ c lt _ rfl (by omega) hrc).mono ?_); rintro e wd ⟨a1, c1, rfl, hown1, hbd⟩; obtain ⟨g, rfl, hg⟩ := own_or _ _ _ _ _ _ hown1 (by omega); have hcd := cell_first (hsc.below hbd) h2 HY.out))
    | (go_at_call 56; go_loud ((with_reducible refine (dbd_any _ g _ c1 y lt wd rfl (by omega) hy0 hy1 hown1).mono ?_); rintro e we ⟨rfl, Q, hQl, hQv, hownQ, hgr⟩; rw [HV.out, HRV.out]; rw [HV.out, HQV.out] at hQv; have hbe := hbd.grown hgr hbd.size (fun k e => by injection e with e; omega); have TQ := trim_any (some ⟨g, 0, none⟩) lt.length c1 Q we hQl (own_cap hownQ) (by omega) (RwF.of_own hownQ).1; rw [← canon_val, hQv] at TQ))
    | (go_at_call 47; (with_reducible refine TQ.mono ?_); rintro e w1 ⟨rfl, rfl⟩)
    | (go_at_call 42; (with_reducible refine (G.out _).mono ?_); rintro e wf ⟨a2, c2, rfl, hc2, hr2, hbf⟩))
  go_ret3
  have hQt : trimD Q = canon qv := by rw [← canon_val, hQv]
  have hK5 := (RwF.of_own hownQ).take (trimD Q).length
  rw [← trim_prefix, hQt] at hK5
  have hKl := trim_len_le Q
  rw [hQt, hQl] at hKl
  have hbw := hbc.trans (hbe.mono hzc)
  exact ⟨some ⟨g, 0, none⟩, c1, a2, c2, rfl, Nat.le_trans hKl (own_cap hownQ), hc2, (hK5.below hbf).mono hzc, hr2.mono hbw.size, hbw.trans (hbf.mono hbw.size)⟩
theorem ndm_any (a b : Option Addr) (n c m d : Nat) (l k : List (BitVec 32)) (w : World) (hn : l.length = n) (hm : k.length = m) (hnc : n ≤ c) (hmd : m ≤ d) (hl : n ≤ 900000) (hl2 : m ≤ 900000) (hr : Rw w a l) (hs : Rw w b k) (hpos : 0 < valD k) :
    Calls Tryd.prog 39 #[.slice a n c, .slice b m d] w (DmR w (valD l) (valD k)) := by
  rcases Nat.lt_or_ge (valD l) (valD k) with h | h
  · exact ndm_lt a b n c m d l k w hn hm hnc hmd hl hl2 hr hs h
  rcases Nat.lt_or_ge 2 (trimD l).length with h2 | h2
  · have hkl : 0 < (trimD k).length := by
      have := canon_len_pos hpos
      rwa [canon_val] at this
    rcases Nat.lt_or_ge 1 (trimD k).length with h3 | h3
    · exact ndm_long a b n c m d l k w hn hm hnc hmd hl hl2 hr hs h h2 h3
    · exact ndm_one a b n c m d l k w hn hm hnc hmd hl hl2 hr hs h h2 (by omega)
  · exact (ndm_small a b n c m d l k w hn hm hnc hmd (by omega) (by omega) hr hs hpos h h2).mono fun _ _ h => h
end Go.Proofs.YtcofiekfhnfjpaaDoor

