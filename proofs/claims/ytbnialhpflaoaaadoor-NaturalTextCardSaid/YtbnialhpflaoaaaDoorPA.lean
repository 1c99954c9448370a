import Derived.Test.YtbnialhpflaoaaaDoorP9
namespace Go.Proofs.YtbnialhpflaoaaaDoor
open Go.RowKit
set_option linter.unusedVariables false
set_option linter.unusedSimpArgs false
def ShR (w : World) (X : List (BitVec 32)) (W t : Nat) (g cp : Nat) (i : Value) (wr : World) : Prop := ∃ (p : Nat) (Q : List (BitVec 32)), p ≤ X.length ∧ i = .int .i64 p ∧
  Hid (Q.length = X.length + W + 1 ∧ valD Q = valD (X.take p) * 2 ^ t * pw W ∧ digD Q (p + W) < 2 ^ t ∧ ∀ z, p + W < z → z < Q.length → Q[z]? = some 0#32) ∧
  wr.ownsRow w.heap.size 39 1 (.slice (some ⟨g, 0, none⟩) (X.length + W + 1) cp) (X.length + W + 1) (bv32 Q) ∧ Below w.heap.size w wr
theorem u32_or_add (t q y : Nat) (ht : t ≤ 31) (hq : q < 2 ^ t) (hy : y < 4294967296) (hd : y % 2 ^ t = 0) : bits .or .u32 (q : Int) (y : Int) = ((q + y : Nat) : Int) := by
  have h1 : 2 ^ t ≤ 2 ^ 31 := Nat.pow_le_pow_right (by decide) ht
  rw [u32_or_nat _ _ (by omega) hy, Nat.or_comm, nat_join t _ _ hd hq, Nat.add_comm]
theorem or_sum_lt (t q y : Nat) (ht : t ≤ 31) (hq : q < 2 ^ t) (hy : y < 4294967296) (hd : y % 2 ^ t = 0) : q + y < 4294967296 := by
  have h1 : 2 ^ t ≤ 2 ^ 31 := Nat.pow_le_pow_right (by decide) ht
  have h2 := nat_join t y q hd hq
  have h3 : y ||| q < 2 ^ 32 := Nat.or_lt_two_pow (by omega) (by omega)
  omega
theorem shl_num (V V1 V2 A x y q S P R r : Nat) (h1 : V1 + P * q = V + P * (q + y % 4294967296)) (h2 : V2 = V1 + P * 4294967296 * (y / 4294967296)) (h0 : V = A * S * R) (hP : P = r * R) (hy : x * S = y) : V2 = (A + r * x) * S * R := by
  have h3 := congrArg (P * ·) (Nat.mod_add_div y 4294967296)
  simp only [Nat.mul_add] at h3 h1
  subst hP h0
  rw [h2]
  have h4 : V1 = A * S * R + r * R * (y % 4294967296) := by omega
  rw [h4, ← hy] at *
  grind
theorem sh_mod (x t y : Nat) (ht : t ≤ 31) (hy : x * 2 ^ t = y) : y % 4294967296 % 2 ^ t = 0 := by
  have e : (4294967296 : Nat) = 2 ^ t * 2 ^ (32 - t) := by rw [← Nat.pow_add, show t + (32 - t) = 32 by omega]
  rw [e, Nat.mod_mul_right_mod, ← hy, Nat.mul_mod_left]
set_option maxRecDepth 50000 in
set_option maxHeartbeats 2000000 in
theorem nshl_core (a : Option Addr) (n c s W t : Nat) (v : Int) (l : List (BitVec 32)) (w : World) (hn : l.length = n) (hnc : n ≤ c) (hl : n ≤ 1000000) (hr : Rw w a l) (hv : 0 ≤ v) (hs : s ≤ 4096) (hsv : v ≤ 4096 ∧ v = s ∨ 4096 < v ∧ s = 4096) (hW : s / 32 = W) (ht : s % 32 = t) :
    Calls Tryd.prog 34 #[.slice a n c, .int .i64 v] w (FrR w (canon (valD l * 2 ^ s))) := by
  subst hn
  have f1 := trim_len_le l
  have hrt := hr.trim
  have T1 : ∀ W, Rw W a l → Calls Tryd.prog 43 #[.slice a l.length c] W fun e w' => e = .returned (.slice a (trimD l).length c) ∧ W = w' := fun W h => trim_any a _ c l W rfl hnc (by omega) h
  have H1 := Lib.hid (T1 w hr)
  rw [← valD_trim l]
  clear T1 hr
  generalize trimD l = lt at *
  have hv0 : decide (v < 0) = false := by rw [decide_eq_false_iff_not]; omega
  by_cases h0 : lt.length = 0
  · have e1 : canon (valD lt * 2 ^ s) = [] := by rw [List.length_eq_zero_iff.1 h0, valD_nil, Nat.zero_mul, canon_zero]
    have HE := Lib.hid e1
    rw [h0] at H1
    clear e1 h0 hsv hs
    go_enter Tryd.func34, Tryd.ntmps34
    go_wp2_with (go_at_call 43; (with_reducible refine H1.out.mono ?_); rintro e w1 ⟨rfl, rfl⟩)
    go_ret
    rw [HE.out]
    exact ⟨none, 0, rfl, Nat.le_refl _, ⟨Rw.nil _ _, fun ad h => by cases h⟩, Below.refl _ _⟩
  have hz3 : ((lt.length : Int) == 0) = false := by rw [beq_eq_false_iff_ne]; omega
  have m1 : (if (4096 : Int) < v then (4096 : Int) else v) = (s : Int) := by split <;> omega
  have m2 : min v 4096 = (s : Int) := by omega
  have q1 : (s : Int) / 32 = (W : Int) := by omega
  have q2 : (s : Int) % 32 = (t : Int) := by omega
  have q3 : (s : Int).tdiv 32 = (W : Int) := by rw [Int.tdiv_eq_ediv_of_nonneg (by omega)]; omega
  have q4 : (s : Int).tmod 32 = (t : Int) := by rw [Int.tmod_eq_emod_of_nonneg (by omega)]; omega
  have ht31 : t ≤ 31 := by omega
  have hWb : W ≤ 128 := by omega
  have HS : Hid (s = 32 * W + t) := by show _ = _; omega
  have hmk := run_make_row' (P := Tryd.prog) 22 39 (.int .u32 0) 4 Tryd.underlying22 info32 rfl .i64 .i64 (lt.length + W + 1) (by omega) (by omega)
  have hcast : ((lt.length + W + 1 : Nat) : Int) = (lt.length : Int) + (W : Int) + 1 := by omega
  rw [hcast] at hmk
  clear hcast hW ht hsv hs hv
  go_enter Tryd.func34, Tryd.ntmps34
  go_wp2_with (go_at_call 43; (with_reducible refine H1.out.mono ?_); rintro e w1 ⟨rfl, rfl⟩)
  go_loopw [8, 9, 34] (fun _ _ i wr => ShR w lt W t w.heap.size (lt.length + W + 1) i wr) (fun _ _ i _ => lt.length - (intOf i).toNat)
  case atStart =>
    refine ⟨0, zer (lt.length + W + 1), Nat.zero_le _, rfl, ⟨by simp [zer], by simp [zer, valD_zeros, valD_nil], ?_, ?_⟩, made32 w _ (by omega), Below.alloc (Below.refl _ _) (Nat.le_refl _) _⟩
    · have : digD (zer (lt.length + W + 1)) (0 + W) = 0 := by rw [digD_in _ _ (by simp [zer]; omega)]; simp [zer]
      rw [this]; exact Nat.two_pow_pos t
    · intro z _ hz
      rw [zer, List.getElem?_replicate, if_pos (by simpa [zer] using hz)]
  case round =>
    obtain ⟨p, Q, hp, rfl, hq, hown, hb⟩ := hrel
    by_cases hlt : p < lt.length
    · obtain ⟨ad, rfl, hc0⟩ := hrt.below hb p hlt
      obtain ⟨x, hx⟩ : ∃ x, lt[p].toNat = x := ⟨_, rfl⟩
      have e1 := lt[p].isLt
      rw [hx] at hc0 e1
      have HX : Hid (digD lt p = x) := by show _ = _; rw [digD_in _ _ hlt, hx]
      have hQl := hq.out.1
      have hpw : p + W < Q.length := by omega
      have hpw1 : p + W + 1 < Q.length := by omega
      obtain ⟨qd, hqd⟩ : ∃ z, Q[p + W].toNat = z := ⟨_, rfl⟩
      have hcq := own_cell hown (p + W) (.int .u32 (Q[p + W].toNat : Int)) (by simp [bv32, hpw])
      have hfq := hown.frozenAt (p + W)
      have hz1 := hq.out.2.2.2 (p + W + 1) (by omega) hpw1
      have hcz := own_cell hown (p + W + 1) (.int .u32 0) (by rw [bv32, List.getElem?_map, hz1]; rfl)
      have hfz := hown.frozenAt (p + W + 1)
      have hqlt := hq.out.2.2.1
      rw [digD_in _ _ hpw, hqd] at hqlt
      rw [hqd] at hcq
      have ep : 2 ^ t ≤ 2147483648 := Nat.le_trans (Nat.pow_le_pow_right (by decide) ht31) (by decide)
      have hy0 : x * 2 ^ t ≤ 9223372034707292160 := Nat.le_trans (Nat.mul_le_mul (Nat.le_of_lt_succ e1) ep) (by decide)
      obtain ⟨y, hy⟩ : ∃ y, x * 2 ^ t = y := ⟨_, rfl⟩
      have hyi : (x : Int) * 2 ^ t = (y : Int) := by rw [← hy]; push_cast; rfl
      rw [hy] at hy0
      have hor := u32_or_add t qd (y % 4294967296) ht31 hqlt (Nat.mod_lt _ (by decide)) (sh_mod x t y ht31 hy)
      have hor2 : bits .or .u32 (qd : Int) ((y : Int) % 4294967296) = ((qd + y % 4294967296 : Nat) : Int) := by rw [← hor]; congr 1
      have ht0 : decide ((t : Int) < 0) = false := by rw [decide_eq_false_iff_not]; omega
      have w1 : IntKind.i64.wrap ((p : Int) + (W : Int)) = (p : Int) + (W : Int) := IntWalk.i64_in _ (by omega)
      have HY := Lib.hid hy
      have HPW := Lib.hid hpw
      have HQT := Lib.hid hqlt
      have hsum := or_sum_lt t qd (y % 4294967296) ht31 hqlt (Nat.mod_lt _ (by decide)) (sh_mod x t y ht31 hy)
      have hyq : y / 4294967296 < 2 ^ t := by
        rw [Nat.div_lt_iff_lt_mul (by decide), ← hy, Nat.mul_comm]
        exact Nat.mul_lt_mul_of_pos_left (by omega) (Nat.two_pow_pos t)
      have HSUM := Lib.hid hsum
      have HYQ := Lib.hid hyq
      have HQD : Hid (Q[p + W]? = some (BitVec.ofNat 32 qd)) := by
        show _ = _
        rw [List.getElem?_eq_getElem hpw]
        exact congrArg some (BitVec.eq_of_toNat_eq (by rw [hqd, BitVec.toNat_ofNat]; omega))
      have HZ1 := Lib.hid hz1
      have hqd32 : qd < 4294967296 := by have := Q[p + W].isLt; omega
      clear hsum hyq hz1
      clear hy ep hx hqlt hor hqd hpw hpw1 hQl
      go_wp2
      go_roundw
      case rel =>
        have hl1 := HPW.out
        have hl2 : p + W + 1 < Q.length := by rw [hq.out.1]; omega
        have ed1 : (BitVec.ofNat 32 (qd + y % 4294967296)).toNat = qd + y % 4294967296 := by rw [BitVec.toNat_ofNat]; have := HSUM.out; omega
        have ed2 : (BitVec.ofNat 32 (y / 4294967296)).toNat = y / 4294967296 := by rw [BitVec.toNat_ofNat]; omega
        have hl3 : p + W + 1 < (Q.set (p + W) (BitVec.ofNat 32 (qd + y % 4294967296))).length := by rw [List.length_set]; exact hl2
        refine ⟨p + 1, (Q.set (p + W) (BitVec.ofNat 32 (qd + y % 4294967296))).set (p + W + 1) (BitVec.ofNat 32 (y / 4294967296)), by omega, by go_num, ⟨?_, ?_, ?_, ?_⟩, ?_, ?_⟩
        · rw [List.length_set, List.length_set]; exact hq.out.1
        · have v1 := valD_set Q (p + W) (BitVec.ofNat 32 (qd + y % 4294967296)) hl1
          have v2 := valD_set (Q.set (p + W) (BitVec.ofNat 32 (qd + y % 4294967296))) (p + W + 1) (BitVec.ofNat 32 (y / 4294967296)) hl3
          have g1 := HQD.out
          rw [List.getElem?_eq_getElem hl1] at g1
          have g2 := HZ1.out
          rw [List.getElem?_eq_getElem hl2] at g2
          have g3 : (Q.set (p + W) (BitVec.ofNat 32 (qd + y % 4294967296)))[p + W + 1] = 0#32 := by
            rw [List.getElem_set_ne (by omega)]
            exact Option.some.inj g2
          have e00 : (0#32).toNat = 0 := rfl
          have eq0 : (BitVec.ofNat 32 qd).toNat = qd := by rw [BitVec.toNat_ofNat]; omega
          rw [Option.some.inj g1, ed1, eq0] at v1
          rw [g3, ed2, e00, Nat.mul_zero, Nat.add_zero, pw_succ] at v2
          rw [valD_dig, HX.out]
          exact shl_num _ _ _ _ _ _ _ _ _ _ _ v1 v2 hq.out.2.1 (pw_add _ _) HY.out
        · rw [show p + 1 + W = p + W + 1 by omega, digD_in _ _ (by rw [List.length_set]; exact hl3), List.getElem_set_self, ed2]
          exact HYQ.out
        · intro z h1 h2
          rw [List.length_set, List.length_set] at h2
          rw [List.getElem?_set_ne (by omega), List.getElem?_set_ne (by omega)]
          exact hq.out.2.2.2 z (by omega) h2
        · have o1 := own_set hown (p + W) (.int .u32 ((qd : Int) + (y : Int) % 4294967296))
          have o2 := own_set o1 (p + W + 1) (.int .u32 ((y : Int) / 4294967296))
          rw [bv32_set, bv32_set, ed1, ed2]
          rw [show (((qd + y % 4294967296 : Nat)) : Int) = (qd : Int) + (y : Int) % 4294967296 by omega, show (((y / 4294967296 : Nat)) : Int) = (y : Int) / 4294967296 by omega]
          exact o2
        · exact Below.setCell (Below.setCell hb (p := ⟨w.heap.size, p + W, none⟩) (Nat.le_refl _) _) (p := ⟨w.heap.size, p + W + 1, none⟩) (Nat.le_refl _) _
      case measure => simp [intOf] <;> omega
    · obtain rfl : p = lt.length := by omega
      have hval : Hid (trimD Q = canon (valD lt * 2 ^ s)) := by
        show _ = _
        rw [← canon_val, hq.out.2.1, List.take_length, pw_two, Nat.mul_assoc, ← Nat.pow_add, show t + 32 * W = s by have := HS.out; omega]
      have hF := RwF.of_own hown
      have hF1 := hF.1
      have HL := Lib.hid hq.out.1
      go_wp2_with (go_at_call 43; (with_reducible refine (trim_any _ _ _ Q _ HL.out (Nat.le_refl _) (by have := HL.out; omega) hF1).mono ?_); rintro e wz ⟨rfl, rfl⟩; rw [hval.out])
      go_ret
      have h5 := hF.take (trimD Q).length
      rw [← trim_prefix, hval.out] at h5
      refine ⟨_, _, rfl, ?_, h5, hb⟩
      have := trim_len_le Q
      rw [hval.out, HL.out] at this
      exact this
end Go.Proofs.YtbnialhpflaoaaaDoor
