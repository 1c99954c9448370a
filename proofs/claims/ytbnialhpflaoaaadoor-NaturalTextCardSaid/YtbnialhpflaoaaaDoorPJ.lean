import Derived.Test.YtbnialhpflaoaaaDoorPH
import Derived.Test.YtbnialhpflaoaaaDoorLs
namespace Go.Proofs.YtbnialhpflaoaaaDoor
open Go.RowKit
set_option linter.unusedVariables false
set_option linter.unusedSimpArgs false
/-- r is the square root of V, rounded down. -/
def IsSq (V r : Nat) : Prop := r * r ≤ V ∧ V < (r + 1) * (r + 1)
theorem isSq_uniq {V r s : Nat} (h : IsSq V r) (k : IsSq V s) : r = s := by
  have key : ∀ x y, IsSq V x → IsSq V y → ¬ x < y := by
    intro x y hx hy h
    have h1 : (x + 1) * (x + 1) ≤ y * y := Nat.mul_le_mul h h
    have h2 := hx.2
    have h3 := hy.1
    omega
  have h1 := key r s h k
  have h2 := key s r k h
  omega
/-- Newton's step from above stays above. -/
theorem newton_above (V x q y : Nat) (hx : 0 < x) (hq : V / x = q) (hy : (x + q) / 2 = y) : V < (y + 1) * (y + 1) := by
  have h1 : V < (q + 1) * x := by rw [← hq]; exact Nat.lt_mul_of_div_lt (Nat.lt_succ_self _) hx
  have h2 : x + (q + 1) ≤ 2 * (y + 1) := by omega
  have h3 : (x + (q + 1)) * (x + (q + 1)) ≤ (2 * (y + 1)) * (2 * (y + 1)) := Nat.mul_le_mul h2 h2
  have h4 : 4 * ((q + 1) * x) ≤ (x + (q + 1)) * (x + (q + 1)) := by
    generalize q + 1 = z
    rcases Nat.le_total x z with h | h
    · obtain ⟨d, rfl⟩ := Nat.le.dest h
      have : (x + (x + d)) * (x + (x + d)) = 4 * ((x + d) * x) + d * d := by grind
      omega
    · obtain ⟨d, rfl⟩ := Nat.le.dest h
      have : (z + d + z) * (z + d + z) = 4 * (z * (z + d)) + d * d := by grind
      omega
  have h5 : (2 * (y + 1)) * (2 * (y + 1)) = 4 * ((y + 1) * (y + 1)) := by grind
  omega
theorem newton_end (V x q : Nat) (hx : 0 < x) (hq : V / x = q) (hy : x ≤ (x + q) / 2) : x * x ≤ V := by
  have h1 : x ≤ V / x := by omega
  exact (Nat.le_div_iff_mul_le hx).1 h1
theorem newton_start (V b e : Nat) (hb : V < 2 ^ b) (he : (b + 1) / 2 = e) : V < (2 ^ e + 1) * (2 ^ e + 1) := by
  have h1 : 2 ^ b ≤ 2 ^ (e + e) := Nat.pow_le_pow_right (by decide) (by omega)
  rw [Nat.pow_add] at h1
  have h2 : 2 ^ e * 2 ^ e ≤ (2 ^ e + 1) * (2 ^ e + 1) := Nat.mul_le_mul (by omega) (by omega)
  omega
theorem pow_row (e k t : Nat) (hk : e / 32 = k) (ht : e % 32 = t) : (zer (k + 1)).set k (BitVec.ofNat 32 (2 ^ t)) = canon (2 ^ e) := by
  have hp : 2 ^ t < 4294967296 := Nat.lt_of_lt_of_le (Nat.pow_lt_pow_right (by decide) (show t < 32 by omega)) (by decide)
  have hl : k < (zer (k + 1)).length := by simp [zer]
  have hv := valD_set (zer (k + 1)) k (BitVec.ofNat 32 (2 ^ t)) hl
  have hz : (zer (k + 1))[k] = 0#32 := by simp [zer]
  have e00 : (0#32).toNat = 0 := rfl
  have hz2 : valD (zer (k + 1)) = 0 := valD_zeros _
  rw [hz, e00, hz2, Nat.mul_zero, Nat.add_zero, Nat.zero_add, BitVec.toNat_ofNat, Nat.mod_eq_of_lt hp, pw_two, ← Nat.pow_add, show 32 * k + t = e by omega] at hv
  have ht2 : trimD ((zer (k + 1)).set k (BitVec.ofNat 32 (2 ^ t))) = (zer (k + 1)).set k (BitVec.ofNat 32 (2 ^ t)) := by
    have hs : (zer (k + 1)).set k (BitVec.ofNat 32 (2 ^ t)) = zer k ++ [BitVec.ofNat 32 (2 ^ t)] := by
      rw [show zer (k + 1) = zer k ++ [0#32] by simp [zer, List.replicate_succ'], List.set_append_right _ _ (by simp [zer])]
      simp [zer]
    rw [hs]
    apply trim_snoc
    intro h
    have h1 := congrArg BitVec.toNat h
    rw [BitVec.toNat_ofNat, Nat.mod_eq_of_lt hp, e00] at h1
    have := Nat.two_pow_pos t
    omega
  rw [← ht2, ← canon_val, hv]
theorem pow_fit (e n : Nat) (h : e < 32 * n) : (canon (2 ^ e)).length ≤ n := by
  rw [canon_len_le, pw_two]
  exact Nat.pow_lt_pow_right (by decide) h
theorem bl_le {V b n : Nat} (h : IsBl V b) (hV : V < pw n) : b ≤ 32 * n := by
  rcases Nat.eq_zero_or_pos V with h0 | h0
  · rw [h.2.1 h0]; exact Nat.zero_le _
  · obtain ⟨h1, h2⟩ := h.2.2 h0
    rcases Nat.lt_or_ge (32 * n) b with h3 | h3
    · have h4 : 2 ^ (32 * n) ≤ 2 ^ (b - 1) := Nat.pow_le_pow_right (by decide) (by omega)
      rw [pw_two] at hV
      omega
    · exact h3
set_option maxRecDepth 50000 in
set_option maxHeartbeats 1000000 in
theorem npow_any (e : Nat) (w : World) (he : e ≤ 1000000) : Calls Tryd.prog 54 #[.int .i64 e] w (FrW w (canon (2 ^ e))) := by
  obtain ⟨k, hk⟩ : ∃ k, e / 32 = k := ⟨_, rfl⟩
  obtain ⟨t, ht⟩ : ∃ t, e % 32 = t := ⟨_, rfl⟩
  have hrow := pow_row e k t hk ht
  obtain ⟨P, hP⟩ : ∃ P, 2 ^ t = P := ⟨_, rfl⟩
  have hp : P < 4294967296 := by rw [← hP]; exact Nat.lt_of_lt_of_le (Nat.pow_lt_pow_right (by decide) (show t < 32 by omega)) (by decide)
  have hPi : (2 : Int) ^ t = (P : Int) := by rw [← hP]; push_cast; rfl
  rw [hP] at hrow
  have q1 : (e : Int) / 32 = (k : Int) := by omega
  have q2 : (e : Int) % 32 = (t : Int) := by omega
  have q3 : (e : Int).tdiv 32 = (k : Int) := by rw [Int.tdiv_eq_ediv_of_nonneg (by omega)]; omega
  have q4 : (e : Int).tmod 32 = (t : Int) := by rw [Int.tmod_eq_emod_of_nonneg (by omega)]; omega
  have ht31 : t ≤ 31 := by omega
  have ht0 : decide ((t : Int) < 0) = false := by rw [decide_eq_false_iff_not]; omega
  have hkb : k ≤ 100000 := by omega
  have hmk := run_make_row' (P := Tryd.prog) 22 39 (.int .u32 0) 4 Tryd.underlying22 info32 rfl .i64 .i64 (k + 1) (by omega) (by omega)
  have hcast : ((k + 1 : Nat) : Int) = (k : Int) + 1 := by omega
  rw [hcast] at hmk
  have hown := made32 w (k + 1) (by omega)
  have hck := own_cell hown k (.int .u32 0) (by simp [bv32, zer])
  have hfk := hown.frozenAt k
  have HR := Lib.hid hrow
  clear hcast hk ht hP hrow
  go_enter Tryd.func54, Tryd.ntmps54
  go_wp2
  go_ret
  have hcs : ((madeCells #[Value.int IntKind.u32 0] (k + 1)).setIfInBounds k (Value.int IntKind.u32 (P : Int))).toList = bv32 (canon (2 ^ e)) := by
    rw [made_cells, Array.toList_setIfInBounds, ← HR.out, bv32_set, BitVec.toNat_ofNat, Nat.mod_eq_of_lt hp]
  have hln : (canon (2 ^ e)).length = k + 1 := by rw [← HR.out, List.length_set]; simp [zer]
  have o1 := own_made w ((madeCells #[Value.int IntKind.u32 0] (k + 1)).setIfInBounds k (Value.int IntKind.u32 (P : Int))) 39 (k + 1) (by rw [Array.size_setIfInBounds]; exact size_madeCells _ _) (by unfold maxLen; omega)
  rw [hcs] at o1
  exact ⟨some ⟨w.heap.size, 0, none⟩, k + 1, by rw [hln]; rfl, by rw [hln]; exact o1, Below.alloc (Below.refl _ _) (Nat.le_refl _) _⟩
def SqR (w : World) (V : Nat) (r : Value) (wr : World) : Prop := ∃ (a : Option Addr) (c : Nat) (X : List (BitVec 32)), r = .slice a X.length c ∧ X.length ≤ c ∧ X.length ≤ 800000 ∧ 0 < valD X ∧ Hid (V < (valD X + 1) * (valD X + 1) ∧ trimD X = X) ∧ RwF w.heap.size wr a X ∧ Below w.heap.size w wr
theorem shV_half (V : Nat) : shV V (-1) = V / 2 := by
  unfold shV
  rw [if_neg (by omega)]
  rfl
theorem cmpN_ge' {x y : Nat} (h : y ≤ x) : ∃ v : Int, cmpN x y = v ∧ decide (0 ≤ v) = true := by
  rcases Nat.lt_or_eq_of_le h with h1 | h1
  · exact ⟨1, cmpN_gt h1, rfl⟩
  · subst h1
    exact ⟨0, cmpN_eq _, rfl⟩
set_option maxRecDepth 50000 in
set_option maxHeartbeats 2000000 in
theorem nsqrt_any (a : Option Addr) (n c : Nat) (l : List (BitVec 32)) (w : World) (hn : l.length = n) (hnc : n ≤ c) (hl : n ≤ 20000) (hr : Rw w a l) :
    Calls Tryd.prog 36 #[.slice a n c] w fun e w' => ∃ r, IsSq (valD l) r ∧ FrR w (canon r) e w' := by
  subst hn
  have f1 := trim_len_le l
  have hrt := hr.trim
  have T1 : ∀ W, Rw W a l → Calls Tryd.prog 43 #[.slice a l.length c] W fun e w' => e = .returned (.slice a (trimD l).length c) ∧ W = w' := fun W h => trim_any a _ c l W rfl hnc (by omega) h
  have H1 := Lib.hid (T1 w hr)
  rw [← valD_trim l]
  have t1 : trimD (trimD l) = trimD l := by rw [← canon_val l, trim_canon]
  have HT1 := Lib.hid t1
  clear T1 hr t1
  generalize trimD l = lt at *
  obtain ⟨V, hV⟩ : ∃ V, valD lt = V := ⟨_, rfl⟩
  have HV := Lib.hid hV
  rw [hV]
  by_cases h0 : lt.length = 0
  · have hv0 : V = 0 := by rw [← hV, List.length_eq_zero_iff.1 h0]; rfl
    rw [h0] at H1
    subst hv0
    clear hV
    go_enter Tryd.func36, Tryd.ntmps36
    go_wp2_with (go_at_call 43; (with_reducible refine H1.out.mono ?_); rintro e w1 ⟨rfl, rfl⟩)
    go_ret
    refine ⟨0, ⟨by decide, by decide⟩, none, 0, ?_, ?_, ⟨?_, ?_⟩, Below.refl _ _⟩
    · rw [canon_zero]; rfl
    · rw [canon_zero]; exact Nat.le_refl _
    · rw [canon_zero]; exact Rw.nil _ _
    · intro ad h; cases h
  have hz : ((lt.length : Int) == 0) = false := by rw [beq_eq_false_iff_ne]; omega
  have hVl : V < pw lt.length := by rw [← hV]; exact valD_lt lt
  have hVp : 0 < V := by
    have h := valD_len lt HT1.out (by omega)
    have := pw_pos (lt.length - 1)
    omega
  have HVP := Lib.hid hVp
  have HVL := Lib.hid hVl
  clear hV hVl hVp
  go_enter Tryd.func36, Tryd.ntmps36
  go_wp2_with (first
    | (go_at_call 43; (with_reducible refine H1.out.mono ?_); rintro e w1 ⟨rfl, rfl⟩)
    | (go_at_call 23; go_loud ((with_reducible refine (nbl_any a _ c lt _ rfl (by omega) (by omega) hrt).mono ?_); rintro e w1 ⟨b, rfl, hbl, hw⟩; have hw := hw.symm; subst hw; rw [HV.out] at hbl; have hb32 := bl_le hbl HVL.out; obtain ⟨h2, hh2⟩ : ∃ h, (b + 1) / 2 = h := ⟨_, rfl⟩; have hbq : ((b : Int) + 1) / 2 = (h2 : Int) := (by omega); have hbt : ((b : Int) + 1).tdiv 2 = (h2 : Int) := (by rw [Int.tdiv_eq_ediv_of_nonneg (by omega)]; omega)))
    | (go_at_call 54; go_loud ((with_reducible refine (npow_any h2 _ (by omega)).mono ?_); rintro e w2 ⟨a2, c2, rfl, hx2, hb2⟩)))
  have hbl1 := hbl.1
  have hh2b : h2 ≤ 400000 := by omega
  clear hbq hbt hb32 hbl
  go_loopw [3] (fun r wr => SqR w V r wr) (fun r wr => valD (rowOf wr r))
  case atStart => exact ⟨a2, c2, canon (2 ^ h2), rfl, own_cap hx2, pow_fit h2 800000 (by omega), by rw [valD_canon]; exact Nat.two_pow_pos _, ⟨by rw [valD_canon]; exact newton_start V b h2 hbl1 hh2, trim_canon _⟩, RwF.of_own hx2, hb2⟩
  case round =>
    clear hx2 hb2 hbl1 hh2
    obtain ⟨ax, cx, X, rfl, hcx, hlx, hxp, hg, hfx, hbr⟩ := hrel
    have hrx := hfx.1
    have hrow : valD (rowOf wr (.slice ax X.length cx)) = valD X := by rw [rowOf_eq hrx]
    have HROW := Lib.hid hrow
    obtain ⟨Q, E1⟩ := ex_canon (V / valD X)
    have vQ : valD Q = V / valD X := by rw [← E1.out, valD_canon]
    obtain ⟨S, E3⟩ := ex_canon (valD X + valD Q)
    have vS : valD S = valD X + valD Q := by rw [← E3.out, valD_canon]
    obtain ⟨Y, E4⟩ := ex_canon (shV (valD S) (-1))
    have vY : valD Y = (valD X + valD Q) / 2 := by rw [← E4.out, valD_canon, shV_half, vS]
    have fQ : Q.length ≤ lt.length := by rw [← E1.out, canon_len_le]; exact Nat.lt_of_le_of_lt (Nat.div_le_self _ _) HVL.out
    have fS := fit_add (valD_lt X) (valD_lt Q)
    rw [E3.out] at fS
    have fY : Y.length ≤ S.length := by rw [← E4.out, canon_len_le, shV_half]; exact Nat.lt_of_le_of_lt (Nat.div_le_self _ _) (valD_lt S)
    have hd := ndm_any a ax _ c _ cx lt X wr rfl rfl (by omega) hcx (by omega) (by omega) (hrt.below hbr) hrx hxp
    rw [HV.out] at hd
    have HDM := Lib.hid hd
    have HNA : Hid (V < (valD Y + 1) * (valD Y + 1)) := newton_above V (valD X) (valD Q) (valD Y) hxp vQ.symm vY.symm
    have HVY : Hid (valD Q = V / valD X ∧ valD Y = (valD X + valD Q) / 2) := ⟨vQ, vY⟩
    clear hd hrow vQ vS vY
    by_cases hlt : valD Y < valD X
    · have HC : Hid (cmpN (valD Y) (valD X) = -1) := cmpN_lt hlt
      have hYp : 0 < valD Y := by
        have h := HNA.out
        rcases Nat.eq_zero_or_pos (valD Y) with h0 | h0
        · exfalso
          obtain ⟨h1, h2⟩ := HVY.out
          have hV0 : V = 0 := by rw [h0] at h; omega
          have := HVP.out
          omega
        · exact h0
      have hYl : Y.length ≤ X.length := by
        rw [← E4.out, canon_len_le, ← valD_canon (shV (valD S) (-1)), E4.out]
        exact Nat.lt_trans hlt (valD_lt X)
      have HLT := Lib.hid hlt
      have HT6 : Hid (trimD Y = Y) := by show _ = _; rw [← E4.out, trim_canon]
      clear hlt
      go_wp2_with (first
        | (go_at_call 31; go_loud ((with_reducible refine HDM.out.mono ?_); rintro e w3 ⟨a3, c3, a4, c4, rfl, hc3, hc4, hf3, hf4, hb3⟩; have hn3 := hf3.1; rw [E1.out] at hn3 hc3; rw [E1.out]; have hbx3 := hrx.below hb3))
        | (go_at_call 27; go_loud ((with_reducible refine (nadd_any ax a3 _ cx _ c3 X Q _ rfl rfl hcx hc3 (by omega) (by omega) hbx3 hn3).mono ?_); rintro e w4 ⟨a5, c5, rfl, hc5, hf5, hb4⟩; have hn5 := hf5.1; rw [E3.out] at hn5 hc5; rw [E3.out]; have hbx4 := hbx3.below hb4; have hb34 := hb3.trans (hb4.mono hb3.size)))
        | (go_at_call 34; go_loud ((with_reducible refine (nshift_any a5 _ c5 (-1) S _ rfl hc5 (by omega) hn5 (by omega)).mono ?_); rintro e w5 ⟨a6, c6, rfl, hc6, hf6, hb5⟩; rw [E4.out] at hf6 hc6; rw [E4.out]; have hn6 := hf6.1; have hbx5 := hbx4.below hb5; have hb35 := hb34.trans (hb5.mono hb34.size)))
        | (go_at_call 21; go_loud ((with_reducible refine (ncmp_any a6 ax _ c6 _ cx Y X _ rfl rfl hc6 hcx (by omega) (by omega) hn6 hbx5).mono ?_); rintro e w6 ⟨rfl, hw6⟩; have hb6 := drew_below hw6; clear hw6; rw [HC.out])))
      go_roundw
      case rel =>
        have hbw := hbr.trans ((hb35.trans (hb6.mono hb35.size)).mono hbr.size)
        exact ⟨a6, c6, Y, rfl, hc6, by omega, hYp, ⟨HNA.out, HT6.out⟩, (hf6.below hb6).mono (Nat.le_trans hbr.size hb34.size), hbw⟩
      case measure =>
        rw [HROW.out, rowOf_eq (hn6.below hb6)]
        exact HLT.out
    · have hge : valD X ≤ valD Y := by omega
      obtain ⟨v, hv, hv2⟩ := cmpN_ge' hge
      have HC := Lib.hid hv
      have hX : Hid (canon (valD X) = X) := by show _ = _; rw [canon_val]; exact hg.out.2
      have HSQ : Hid (IsSq V (valD X)) := ⟨newton_end V (valD X) (valD Q) hxp HVY.out.1.symm (by rw [← HVY.out.2]; exact hge), hg.out.1⟩
      clear hlt hge hv
      go_wp2_with (first
        | (go_at_call 31; go_loud ((with_reducible refine HDM.out.mono ?_); rintro e w3 ⟨a3, c3, a4, c4, rfl, hc3, hc4, hf3, hf4, hb3⟩; have hn3 := hf3.1; rw [E1.out] at hn3 hc3; rw [E1.out]; have hbx3 := hrx.below hb3))
        | (go_at_call 27; go_loud ((with_reducible refine (nadd_any ax a3 _ cx _ c3 X Q _ rfl rfl hcx hc3 (by omega) (by omega) hbx3 hn3).mono ?_); rintro e w4 ⟨a5, c5, rfl, hc5, hf5, hb4⟩; have hn5 := hf5.1; rw [E3.out] at hn5 hc5; rw [E3.out]; have hbx4 := hbx3.below hb4; have hb34 := hb3.trans (hb4.mono hb3.size)))
        | (go_at_call 34; go_loud ((with_reducible refine (nshift_any a5 _ c5 (-1) S _ rfl hc5 (by omega) hn5 (by omega)).mono ?_); rintro e w5 ⟨a6, c6, rfl, hc6, hf6, hb5⟩; rw [E4.out] at hf6 hc6; rw [E4.out]; have hn6 := hf6.1; have hbx5 := hbx4.below hb5; have hb35 := hb34.trans (hb5.mono hb34.size)))
        | (go_at_call 21; go_loud ((with_reducible refine (ncmp_any a6 ax _ c6 _ cx Y X _ rfl rfl hc6 hcx (by omega) (by omega) hn6 hbx5).mono ?_); rintro e w6 ⟨rfl, hw6⟩; have hb6 := drew_below hw6; clear hw6; rw [HC.out])))
      go_ret
      have hbw := hbr.trans ((hb35.trans (hb6.mono hb35.size)).mono hbr.size)
      exact ⟨valD X, HSQ.out, ax, cx, by rw [hX.out]; rfl, by rw [hX.out]; exact hcx, by rw [hX.out]; exact hfx.below (hb35.trans (hb6.mono hb35.size)), hbw⟩
end Go.Proofs.YtbnialhpflaoaaaDoor
