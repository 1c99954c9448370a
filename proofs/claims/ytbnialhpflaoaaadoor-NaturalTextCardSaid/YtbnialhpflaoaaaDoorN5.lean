import Derived.Test.YtbnialhpflaoaaaDoorN4
namespace Go.Proofs.YtbnialhpflaoaaaDoor
open Go.RowKit
set_option linter.unusedVariables false
set_option linter.unusedSimpArgs false
theorem up_num (X O q x y p s r S T : Nat) (h : X * T = O + q * p) (hp : p = s * r) (hy : x * S = y) (hT : s * S = T) : (X + r * x) * T = O + p * ((y + q) % 4294967296) + (y + q) / 4294967296 * (p * 4294967296) := by
  have h1 := congrArg (p * ·) (Nat.mod_add_div (y + q) 4294967296)
  simp only [Nat.mul_add] at h1
  subst hy hT hp
  grind
def UpRel (w : World) (l : List (BitVec 32)) (n : Nat) (v c i : Value) (wr : World) : Prop := ∃ (k q : Nat) (out : List (BitVec 32)), k ≤ l.length ∧ i = .int .i64 k ∧ c = .int .u64 q ∧ q < 2147483648 ∧ Hid (out.length = n / 32 + k ∧ q < 2 ^ (n % 32) ∧ valD (l.take k) * 2 ^ n = valD out + q * pw (n / 32 + k)) ∧ wr.ownsRow w.heap.size 39 1 v (n / 32 + k) (bv32 out) ∧ Below w.heap.size w wr
set_option maxRecDepth 50000 in
set_option maxHeartbeats 1000000 in
theorem rup_any (a : Option Addr) (m c n : Nat) (l : List (BitVec 32)) (w : World) (hn : l.length = m) (hl : m ≤ 1000000) (hn2 : n ≤ 4096) (hr : Rw w a l) :
    Calls Tryd.prog 53 #[.slice a m c, .int .i64 n] w (FrW w (canon (valD l * 2 ^ n))) := by
  subst hn
  have hmk := run_make_row' (P := Tryd.prog) 22 39 (.int .u32 0) 4 Tryd.underlying22 info32 rfl .i64 .i64 (n / 32) (by omega) (by omega)
  have hcast : ((n / 32 : Nat) : Int) = (n : Int) / 32 := by omega
  rw [hcast] at hmk
  clear hcast
  go_enter Tryd.func53, Tryd.ntmps53
  go_wp2
  go_loopw [5, 6, 7] (fun v c i wr => UpRel w l n v c i wr) (fun _ _ i _ => l.length - (intOf i).toNat)
  case atStart =>
    exact ⟨0, 0, zer (n / 32), Nat.zero_le _, rfl, rfl, by omega, ⟨by simp [zer], Nat.two_pow_pos _, by simp [zer, valD_zeros, valD_nil]⟩, made32 w _ (by omega), Below.alloc (Below.refl _ _) (Nat.le_refl _) _⟩
  case round =>
    obtain ⟨j, q, out, hj, rfl, rfl, hq, ho, hown, hb⟩ := hrel
    have hrb := hr.below hb
    have hj2 : n / 32 + j + 1 ≤ 20000000 := by omega
    by_cases hlt : j < l.length
    · obtain ⟨ad, rfl, hc⟩ := hrb j hlt
      have e1 := l[j].isLt
      obtain ⟨x, hx⟩ : ∃ x, l[j].toNat = x := ⟨_, rfl⟩
      rw [hx] at hc e1
      have HX := Lib.hid hx
      clear hx
      have ep : 2 ^ (n % 32) ≤ 2147483648 := Nat.le_trans (Nat.pow_le_pow_right (by decide) (show n % 32 ≤ 31 by omega)) (by decide)
      have hy0 : x * 2 ^ (n % 32) ≤ 9223372034707292160 := Nat.le_trans (Nat.mul_le_mul (Nat.le_of_lt_succ e1) ep) (by decide)
      obtain ⟨y, hy⟩ : ∃ y, x * 2 ^ (n % 32) = y := ⟨_, rfl⟩
      have hyi : (x : Int) * 2 ^ (n % 32) = (y : Int) := by rw [← hy]; push_cast; rfl
      rw [hy] at hy0
      have hq2 : (y + q) / 4294967296 < 2 ^ (n % 32) := by
        have h1 := ho.out.2.1
        have h2 : y ≤ 4294967295 * 2 ^ (n % 32) := by rw [← hy]; exact Nat.mul_le_mul_right _ (Nat.le_of_lt_succ e1)
        exact Nat.div_lt_of_lt_mul (by omega)
      have HQ := Lib.hid hq2
      have HY := Lib.hid hy
      clear hy ep hq2
      go_wp2_with (at_builtin; refine wpList_snoc32 rfl _ _ rfl hown hb hj2 (BitVec.ofNat 32 (y + q)) (toNat32' (by omega)) rfl rfl ?_; intro v' w2 hown2 hb2)
      go_roundw
      case rel =>
        refine ⟨j + 1, (y + q) / 4294967296, out ++ [BitVec.ofNat 32 (y + q)], by omega, by go_num, by go_num, by omega, ⟨?_, HQ.out, ?_⟩, hown2, hb2⟩
        · rw [List.length_append, ho.out.1]; rfl
        · rw [valD_take _ _ hlt, valD_snoc, ho.out.1, BitVec.toNat_ofNat, HX.out, ← Nat.add_assoc, pw_succ]
          exact up_num _ _ _ _ _ _ _ _ _ _ ho.out.2.2 (by rw [pw_add]) HY.out (by rw [pw_two, ← Nat.pow_add]; congr 1; omega)
      case measure => simp [intOf] <;> omega
    · obtain ⟨a1, c1, rfl⟩ := own_slice hown
      go_wp2_with (first
        | (at_builtin; refine wpList_snoc32 rfl _ _ rfl hown hb hj2 (BitVec.ofNat 32 q) (toNat32' (by omega)) rfl rfl ?_; intro v' w2 hown2 hb2; obtain ⟨a2, c2, rfl⟩ := own_slice hown2)
        | (go_at_call 20; (with_reducible refine (norm_any _ _ _ (out ++ [BitVec.ofNat 32 q]) _ (snoc_len _ ho.out.1) (snoc_le _ ho.out.1 (by omega)) (Rw.of_own hown2)).mono ?_); rintro e w3 ⟨a3, c3, rfl, hown3, hb3⟩))
      go_ret
      refine FrW.eq (FrW.up ⟨a3, c3, rfl, hown3, hb3⟩ hb2) ?_
      rw [← canon_val]
      congr 1
      have e := ho.out.2.2
      rw [List.take_of_length_le (by omega)] at e
      rw [valD_snoc, ho.out.1, BitVec.toNat_ofNat, Nat.mod_eq_of_lt (by omega), e, Nat.mul_comm q]
theorem rup_top (a : Option Addr) (m c k : Nat) (hk : k = 4096) (l : List (BitVec 32)) (w : World) (hn : l.length = m) (hl : m ≤ 1000000) (hr : Rw w a l) :
    Calls Tryd.prog 53 #[.slice a m c, .int .i64 4096] w (FrW w (canon (valD l * 2 ^ k))) := by
  have h := rup_any a m c k l w hn hl (by omega) hr
  rw [show (4096 : Int) = (k : Int) by omega]
  exact h
set_option maxRecDepth 50000 in
theorem rsh_up (a : Option Addr) (m c n : Nat) (l : List (BitVec 32)) (w : World) (hn : l.length = m) (hl : m ≤ 1000000) (hr : Rw w a l) :
    Calls Tryd.prog 35 #[.slice a m c, .int .i64 n] w (FrW w (canon (valD l * 2 ^ (min n 4096)))) := by
  subst hn
  rcases Nat.le_total n 4096 with h | h
  · rw [Nat.min_eq_left h]
    have h1 : (if (n : Int) ≤ 4096 then (n : Int) else 4096) = (n : Int) := by rw [if_pos (by omega)]
    have h2 : (if (4096 : Int) < (n : Int) then 4096 else (n : Int)) = (n : Int) := by rw [if_neg (by omega)]
    have h3 : (if (n : Int) < 4096 then (n : Int) else 4096) = (n : Int) := by split <;> omega
    have h4 : min (n : Int) 4096 = (n : Int) := by omega
    go_enter Tryd.func35, Tryd.ntmps35
    go_wp2_with (go_at_call 53; (with_reducible refine (rup_any _ _ _ n l _ rfl hl h hr).mono ?_); rintro e w1 ⟨a1, c1, rfl, hown, hb⟩)
    go_ret
    exact ⟨a1, c1, rfl, hown, hb⟩
  · obtain ⟨k, hk⟩ : ∃ k : Nat, k = 4096 := ⟨_, rfl⟩
    rw [Nat.min_eq_right h, ← hk]
    have HK := Lib.hid hk
    clear hk
    have h1 : (if (n : Int) ≤ 4096 then (n : Int) else 4096) = 4096 := by split <;> omega
    have h2 : (if (4096 : Int) < (n : Int) then 4096 else (n : Int)) = 4096 := by split <;> omega
    have h3 : (if (n : Int) < 4096 then (n : Int) else 4096) = 4096 := by rw [if_neg (by omega)]
    have h4 : min (n : Int) 4096 = 4096 := by omega
    go_enter Tryd.func35, Tryd.ntmps35
    go_wp2_with (go_at_call 53; (with_reducible refine (rup_top _ _ _ k HK.out l _ rfl hl hr).mono ?_); rintro e w1 ⟨a1, c1, rfl, hown, hb⟩)
    go_ret
    exact ⟨a1, c1, rfl, hown, hb⟩
set_option maxRecDepth 50000 in
theorem rsh_out (a : Option Addr) (m c : Nat) (n : Int) (l : List (BitVec 32)) (w : World) (hn : l.length = m) (hl : m ≤ 1000000) (h : n < -32 * (m : Int)) (hr : Rw w a l) :
    Calls Tryd.prog 35 #[.slice a m c, .int .i64 n] w (FrW w (canon (valD l / 2 ^ n.natAbs))) := by
  subst hn
  have hv : canon (valD l / 2 ^ n.natAbs) = [] := by
    have h1 := valD_lt l
    rw [pw_two] at h1
    have h2 : 2 ^ (32 * l.length) ≤ 2 ^ n.natAbs := Nat.pow_le_pow_right (by decide) (by omega)
    rw [Nat.div_eq_of_lt (by omega), canon_zero]
  rw [hv]
  clear hv
  have hb0 := Below.alloc (Below.refl w.heap.size w) (Nat.le_refl _) (.cells #[] 39)
  have hro := fresh_row32 w
  go_enter Tryd.func35, Tryd.ntmps35
  go_wp2
  go_ret
  exact ⟨_, _, rfl, hro, hb0⟩
theorem dig_next (a : Option Addr) (n c i : Nat) (l : List (BitVec 32)) (w : World) (hn : l.length = n) (hr : Rw w a l) :
    Calls Tryd.prog 45 #[.slice a n c, .int .i64 ((i : Int) + 1)] w fun e w' => e = .returned (.int .u64 (digD l (i + 1) : Nat)) ∧ w = w' := dig_any a n c (i + 1) l w hn hr
theorem drop_div (l : List (BitVec 32)) (k : Nat) : valD (l.drop k) = valD l / pw k := by
  have h := dig_split l k
  have h1 : valD (l.take k) < pw k := by
    have h2 := valD_lt (l.take k)
    have h3 := pw_mono (show (l.take k).length ≤ k by rw [List.length_take]; omega)
    omega
  rw [h, Nat.add_mul_div_left _ _ (pw_pos k), Nat.div_eq_of_lt h1, Nat.zero_add]
theorem shr_num (l : List (BitVec 32)) (s k d t : Nat) (ht : s % 32 = t) (hd : digD l (s / 32 + k + 1) * 4294967296 + digD l (s / 32 + k) = d) :
    (valD l / 2 ^ s) % pw (k + 1) = (valD l / 2 ^ s) % pw k + pw k * (d / 2 ^ t % 4294967296) := by
  rw [pw_succ, Nat.mod_mul]
  congr 2
  have h1 : valD l / 2 ^ s / pw k = valD (l.drop (s / 32 + k)) / 2 ^ t := by
    rw [drop_div, Nat.div_div_eq_div_mul, Nat.div_div_eq_div_mul, pw_two, pw_two, ← Nat.pow_add, ← Nat.pow_add]
    congr 2
    omega
  rw [h1, drop_dig, drop_dig l (s / 32 + k + 1)]
  have h2 : 4294967296 = 2 ^ t * 2 ^ (32 - t) := by rw [← Nat.pow_add, show t + (32 - t) = 32 by omega]
  generalize valD (l.drop (s / 32 + k + 1 + 1)) = r
  have h3 : digD l (s / 32 + k) + 4294967296 * (digD l (s / 32 + k + 1) + 4294967296 * r) = d + 2 ^ t * (2 ^ (32 - t) * r * 4294967296) := by
    have h4 : 2 ^ t * (2 ^ (32 - t) * r * 4294967296) = (2 ^ t * 2 ^ (32 - t)) * (4294967296 * r) := by grind
    rw [h4, ← h2]
    omega
  rw [h3, Nat.add_mul_div_left _ _ (Nat.two_pow_pos t), Nat.add_mul_mod_self_right]
def ShrRel (w : World) (l : List (BitVec 32)) (s : Nat) (v i : Value) (wr : World) : Prop := ∃ (k : Nat) (out : List (BitVec 32)), s / 32 + k ≤ l.length ∧ i = .int .i64 ((s / 32 + k : Nat) : Int) ∧ Hid (out.length = k ∧ valD out = (valD l / 2 ^ s) % pw k) ∧ wr.ownsRow w.heap.size 39 1 v k (bv32 out) ∧ Below w.heap.size w wr
set_option maxRecDepth 50000 in
set_option maxHeartbeats 1000000 in
theorem rsh_dn (a : Option Addr) (m c s : Nat) (l : List (BitVec 32)) (w : World) (hn : l.length = m) (hl : m ≤ 1000000) (h0 : 0 < s) (h : s ≤ 32 * m) (hr : Rw w a l) :
    Calls Tryd.prog 35 #[.slice a m c, .int .i64 (-(s : Int))] w (FrW w (canon (valD l / 2 ^ s))) := by
  subst hn
  have hd1 : decide (-(s : Int) < -32 * (l.length : Int)) = false := by rw [decide_eq_false_iff_not]; omega
  have hs0 : ¬ s = 0 := by omega
  have hs1 : decide (s = 0) = false := by rw [decide_eq_false_iff_not]; omega
  go_enter Tryd.func35, Tryd.ntmps35
  go_wp2
  go_loopw [5, 6] (fun v i wr => ShrRel w l s v i wr) (fun _ i _ => l.length - (intOf i).toNat)
  case atStart =>
    refine ⟨0, [], by omega, by go_num, ⟨rfl, by rw [pw_zero, Nat.mod_one]; rfl⟩, fresh_row32 w, Below.alloc (Below.refl _ _) (Nat.le_refl _) _⟩
  case round =>
    obtain ⟨k, out, hj, rfl, ho, hown, hb⟩ := hrel
    obtain ⟨i, hi⟩ : ∃ i, s / 32 + k = i := ⟨_, rfl⟩
    rw [hi] at hj
    have HI := Lib.hid hi
    have hki : k ≤ i := by omega
    rw [hi]
    clear hi
    have hrb := hr.below hb
    have hj2 : k + 1 ≤ 20000000 := by omega
    by_cases hlt : i < l.length
    · have e1 := digD_lt l i
      have e2 := digD_lt l (i + 1)
      obtain ⟨d, hd⟩ : ∃ d, digD l (i + 1) * 4294967296 + digD l i = d := ⟨_, rfl⟩
      have hd2 : (digD l (i + 1) : Int) * 4294967296 + (digD l i : Int) = (d : Int) := by omega
      have hd3 : d < 18446744073709551616 := by omega
      have HD := Lib.hid hd
      clear hd
      obtain ⟨t2, ht2⟩ : ∃ t2, d / 2 ^ (s % 32) = t2 := ⟨_, rfl⟩
      have HT2 := Lib.hid (show (d : Int) / 2 ^ (s % 32) = (t2 : Int) by rw [← ht2]; push_cast; rfl)
      have HT3 := Lib.hid ht2
      clear ht2
      go_wp2_with (first
        | (go_at_call 45; (with_reducible refine (dig_any a _ _ i l _ rfl hrb).mono ?_); rintro e w2 ⟨rfl, rfl⟩)
        | (go_at_call 45; (with_reducible refine (dig_next a _ _ i l _ rfl hrb).mono ?_); rintro e w2 ⟨rfl, rfl⟩)
        | (at_builtin; refine wpList_snoc32 rfl _ _ rfl hown hb hj2 (BitVec.ofNat 32 t2) (toNat32' (by rw [HT2.out])) rfl rfl ?_; intro v' w2 hown2 hb2))
      go_roundw
      case rel =>
        refine ⟨k + 1, out ++ [BitVec.ofNat 32 t2], by have := HI.out; omega, by have := HI.out; go_num, ⟨?_, ?_⟩, hown2, hb2⟩
        · rw [List.length_append, ho.out.1]; rfl
        · have := HD.out
          rw [← HI.out] at this
          rw [valD_snoc, ho.out.1, BitVec.toNat_ofNat, ho.out.2, ← HT3.out, shr_num l s k d _ rfl this]
      case measure => simp [intOf] <;> omega
    · obtain ⟨a1, c1, rfl⟩ := own_slice hown
      go_wp2_with ((go_at_call 20; (with_reducible refine (norm_any _ _ _ out _ (snoc_own_le hown) (own_le hown (by omega)) (Rw.of_own hown)).mono ?_); rintro e w3 ⟨a3, c3, rfl, hown3, hb3⟩))
      go_ret
      refine FrW.eq (FrW.up ⟨a3, c3, rfl, hown3, hb3⟩ hb) ?_
      rw [← canon_val, ho.out.2]
      congr 1
      apply Nat.mod_eq_of_lt
      have h1 := valD_lt l
      have h2 := HI.out
      have h3 : pw l.length ≤ pw k * 2 ^ s := by
        rw [pw_two, pw_two, ← Nat.pow_add]
        exact Nat.pow_le_pow_right (by decide) (by omega)
      exact Nat.div_lt_of_lt_mul (by rw [Nat.mul_comm]; omega)
end Go.Proofs.YtbnialhpflaoaaaDoor
