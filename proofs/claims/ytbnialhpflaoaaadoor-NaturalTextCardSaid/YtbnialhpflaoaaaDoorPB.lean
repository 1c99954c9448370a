import Derived.Test.YtbnialhpflaoaaaDoorPA
namespace Go.Proofs.YtbnialhpflaoaaaDoor
open Go.RowKit
set_option linter.unusedVariables false
set_option linter.unusedSimpArgs false
def SrR (w : World) (l : List (BitVec 32)) (s N : Nat) (g cp : Nat) (i : Value) (wr : World) : Prop := ∃ (p : Nat) (Q : List (BitVec 32)), p ≤ N ∧ i = .int .i64 p ∧
  Hid (Q.length = N ∧ valD (Q.take p) = (valD l / 2 ^ s) % pw p) ∧
  wr.ownsRow w.heap.size 39 1 (.slice (some ⟨g, 0, none⟩) N cp) N (bv32 Q) ∧ Below w.heap.size w wr
theorem or_joinN (x y : Nat) (hx : x < 4294967296) (hy : y < 4294967296) : bits .or .u64 (x : Int) ((y : Int) * 4294967296) = ((y * 4294967296 + x : Nat) : Int) := by
  rw [show ((y : Int) * 4294967296) = ((y * 4294967296 : Nat) : Int) by omega, u64_or_nat _ _ (by omega) (by omega), Nat.or_comm, nat_join 32 _ _ (by omega) (by omega)]
set_option maxRecDepth 50000 in
set_option maxHeartbeats 2000000 in
theorem nshr_core (a : Option Addr) (n c s W t : Nat) (v : Int) (l : List (BitVec 32)) (w : World) (hn : l.length = n) (hl : n ≤ 1000000) (hr : Rw w a l) (hvn : -v = (s : Int)) (hsb : s ≤ 9223372036854775808) (h0 : 0 < s) (hW : s / 32 = W) (ht : s % 32 = t) :
    Calls Tryd.prog 52 #[.slice a n c, .int .i64 v] w (FrR w (canon (valD l / 2 ^ s))) := by
  subst hn
  by_cases hout : 32 * l.length ≤ s
  · have e1 : canon (valD l / 2 ^ s) = [] := by
      rw [Nat.div_eq_of_lt, canon_zero]
      refine Nat.lt_of_lt_of_le (valD_lt l) ?_
      rw [pw_two]
      exact Nat.pow_le_pow_right (by decide) hout
    have HE := Lib.hid e1
    have hc : v ≤ -(l.length : Int) * 32 := by omega
    have hc1 : decide (v ≤ -(l.length : Int) * 32) = true := by rw [decide_eq_true_iff]; exact hc
    clear e1 hW ht
    go_enter Tryd.func52, Tryd.ntmps52
    go_wp2
    go_ret
    rw [HE.out]
    exact ⟨none, 0, rfl, Nat.le_refl _, ⟨Rw.nil _ _, fun ad h => by cases h⟩, Below.refl _ _⟩
  have hc : ¬ v ≤ -(l.length : Int) * 32 := by omega
  have hc1 : decide (v ≤ -(l.length : Int) * 32) = false := by rw [decide_eq_false_iff_not]; exact hc
  have q1 : (s : Int) / 32 = (W : Int) := by omega
  have q2 : (s : Int) % 32 = (t : Int) := by omega
  have q3 : (s : Int).tdiv 32 = (W : Int) := by rw [Int.tdiv_eq_ediv_of_nonneg (by omega)]; omega
  have q4 : (s : Int).tmod 32 = (t : Int) := by rw [Int.tmod_eq_emod_of_nonneg (by omega)]; omega
  have ws : IntKind.i64.wrap (s : Int) = s := IntWalk.i64_in _ (by omega)
  have ht31 : t ≤ 31 := by omega
  have hWl : W < l.length := by omega
  have HS : Hid (s / 32 = W ∧ s % 32 = t ∧ s < 32 * l.length) := ⟨hW, ht, by omega⟩
  obtain ⟨N, hN⟩ : ∃ N, l.length - W = N := ⟨_, rfl⟩
  have hNW : (l.length : Int) - (W : Int) = (N : Int) := by omega
  have hNl : N + W = l.length := by omega
  have hmk := run_make_row' (P := Tryd.prog) 22 39 (.int .u32 0) 4 Tryd.underlying22 info32 rfl .i64 .i64 N (by omega) (by omega)
  have ht0 : decide ((t : Int) < 0) = false := by rw [decide_eq_false_iff_not]; omega
  clear hW ht hout hN hsb
  go_enter Tryd.func52, Tryd.ntmps52
  go_wp2
  go_loopw [8, 9, 29] (fun _ _ i wr => SrR w l s N w.heap.size N i wr) (fun _ _ i _ => N - (intOf i).toNat)
  case atStart =>
    exact ⟨0, zer N, Nat.zero_le _, rfl, ⟨by simp [zer], by rw [pw_zero, Nat.mod_one]; rfl⟩, made32 w _ (by omega), Below.alloc (Below.refl _ _) (Nat.le_refl _) _⟩
  case round =>
    obtain ⟨p, Q, hp, rfl, hq, hown, hb⟩ := hrel
    by_cases hlt : p < N
    · have hpl : p + W < l.length := by omega
      obtain ⟨ad, rfl, hc0⟩ := hr.below hb (p + W) hpl
      obtain ⟨x, hx⟩ : ∃ x, l[p + W].toNat = x := ⟨_, rfl⟩
      have e1 := l[p + W].isLt
      rw [hx] at hc0 e1
      have hX : digD l (p + W) = x := by rw [digD_in _ _ hpl, hx]
      have hpQ : p < Q.length := by rw [hq.out.1]; exact hlt
      have hcq := own_cell hown p (.int .u32 (Q[p].toNat : Int)) (by simp [bv32, hpQ])
      obtain ⟨qq, hqq⟩ : ∃ z, Q[p].toNat = z := ⟨_, rfl⟩
      rw [hqq] at hcq
      have hfq := hown.frozenAt p
      have HP := Lib.hid hpQ
      have w1 : IntKind.i64.wrap ((p : Int) + (W : Int)) = (p : Int) + (W : Int) := IntWalk.i64_in _ (by omega)
      obtain ⟨K, hK⟩ : ∃ K, p + W + 1 = K := ⟨_, rfl⟩
      have hKi : (p : Int) + (W : Int) + 1 = (K : Int) := by omega
      have w2 : IntKind.i64.wrap ((p : Int) + (W : Int) + 1) = (K : Int) := by rw [hKi]; exact IntWalk.i64_in _ (by omega)
      have w3 : IntKind.i64.wrap (K : Int) = (K : Int) := IntWalk.i64_in _ (by omega)
      have HK := Lib.hid hK
      clear hx hqq hpQ hK
      by_cases hlt2 : K < l.length
      · skip
        have h2 : K < l.length := hlt2
        have h2d : decide ((K : Int) < (l.length : Int)) = true := by rw [decide_eq_true_iff]; omega
        have hc1 : wr.cell? (ad.add K) = some (.int .u32 (l[K].toNat : Int)) := by
          obtain ⟨ad2, e, h⟩ := hr.below hb K h2
          cases e
          exact h
        obtain ⟨y, hy⟩ : ∃ y, l[K].toNat = y := ⟨_, rfl⟩
        have e2 := l[K].isLt
        rw [hy] at hc1 e2
        have hY : digD l (p + W + 1) = y := by rw [HK.out, digD_in _ _ h2, hy]
        have hor := or_joinN x y e1 e2
        obtain ⟨d, hd⟩ : ∃ d, y * 4294967296 + x = d := ⟨_, rfl⟩
        rw [hd] at hor
        have hdd : digD l (p + W + 1) * 4294967296 + digD l (p + W) = d := by rw [hY, hX]; exact hd
        have hd64 : d < 18446744073709551616 := by omega
        clear hd hY hy
        obtain ⟨t2, ht2⟩ : ∃ t2, d / 2 ^ t = t2 := ⟨_, rfl⟩
        have hdt : (d : Int) / 2 ^ t = (t2 : Int) := by rw [← ht2]; push_cast; rfl
        have HDD := Lib.hid hdd
        have HT2 := Lib.hid ht2
        clear hdd ht2 hX
        go_wp2
        go_roundw
        case rel =>
          have hl1 := HP.out
          refine ⟨p + 1, Q.set p (BitVec.ofNat 32 t2), by omega, by go_num, ⟨?_, ?_⟩, ?_, ?_⟩
          · rw [List.length_set]; exact hq.out.1
          · have hh := HDD.out
            rw [← Nat.add_comm W p, ← HS.out.1] at hh
            rw [valD_set_take _ _ _ hl1, BitVec.toNat_ofNat, hq.out.2, ← HT2.out]
            exact (shr_num l s p _ t HS.out.2.1 hh).symm
          · have o1 := own_set hown p (.int .u32 ((t2 : Int) % 4294967296))
            rw [bv32_set, show ((BitVec.ofNat 32 t2).toNat : Int) = (t2 : Int) % 4294967296 from toNat32 t2]
            exact o1
          · exact Below.setCell hb (p := ⟨w.heap.size, p, none⟩) (Nat.le_refl _) _
        case measure => simp [intOf] <;> omega
      · skip
        have h2 : ¬ K < l.length := hlt2
        have hdd : digD l (p + W + 1) * 4294967296 + digD l (p + W) = x := by rw [digD_out _ _ (by rw [HK.out]; exact Nat.le_of_not_lt h2), hX, Nat.zero_mul, Nat.zero_add]
        have h2d : decide ((K : Int) < (l.length : Int)) = false := by rw [decide_eq_false_iff_not]; omega
        obtain ⟨t2, ht2⟩ : ∃ t2, x / 2 ^ t = t2 := ⟨_, rfl⟩
        have hdt : (x : Int) / 2 ^ t = (t2 : Int) := by rw [← ht2]; push_cast; rfl
        have HDD := Lib.hid hdd
        have HT2 := Lib.hid ht2
        clear hdd ht2 hX
        go_wp2
        go_roundw
        case rel =>
          have hl1 := HP.out
          refine ⟨p + 1, Q.set p (BitVec.ofNat 32 t2), by omega, by go_num, ⟨?_, ?_⟩, ?_, ?_⟩
          · rw [List.length_set]; exact hq.out.1
          · have hh := HDD.out
            rw [← Nat.add_comm W p, ← HS.out.1] at hh
            rw [valD_set_take _ _ _ hl1, BitVec.toNat_ofNat, hq.out.2, ← HT2.out]
            exact (shr_num l s p _ t HS.out.2.1 hh).symm
          · have o1 := own_set hown p (.int .u32 ((t2 : Int) % 4294967296))
            rw [bv32_set, show ((BitVec.ofNat 32 t2).toNat : Int) = (t2 : Int) % 4294967296 from toNat32 t2]
            exact o1
          · exact Below.setCell hb (p := ⟨w.heap.size, p, none⟩) (Nat.le_refl _) _
        case measure => simp [intOf] <;> omega
    · obtain rfl : p = N := by omega
      have hval : Hid (trimD Q = canon (valD l / 2 ^ s)) := by
        show _ = _
        have h := hq.out.2
        rw [List.take_of_length_le (by rw [hq.out.1]; exact Nat.le_refl _)] at h
        rw [← canon_val, h]
        congr 1
        apply Nat.mod_eq_of_lt
        have h1 := valD_lt l
        have h3 : pw l.length ≤ pw p * 2 ^ s := by
          rw [pw_two, pw_two, ← Nat.pow_add]
          exact Nat.pow_le_pow_right (by decide) (by have := HS.out; omega)
        exact Nat.div_lt_of_lt_mul (by rw [Nat.mul_comm]; omega)
      have hF := RwF.of_own hown
      have hF1 := hF.1
      have HL := Lib.hid hq.out.1
      go_wp2_with (go_at_call 43; (with_reducible refine (trim_any _ _ _ Q _ HL.out (Nat.le_refl _) (by have := HL.out; omega) hF1).mono ?_); rintro e wz ⟨rfl, rfl⟩; rw [hval.out])
      go_ret
      have h5 := hF.take (trimD Q).length
      rw [← trim_prefix, hval.out] at h5
      refine ⟨_, _, rfl, ?_, h5, hb⟩
      have := trim_len_le Q
      rw [hval.out, HL.out] at this
      exact this
end Go.Proofs.YtbnialhpflaoaaaDoor
