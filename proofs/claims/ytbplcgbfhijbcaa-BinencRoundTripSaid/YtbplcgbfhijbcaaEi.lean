import Derived.Test.YtbplcgbfhijbcaaEh
namespace Go.Proofs.Ytbplcgbfhijbcaa
open Go.RowKit
set_option linter.unusedVariables false
set_option linter.unusedSimpArgs false
theorem wrap64_wr (x : Int) : wrap64 x = wrp x := by
  unfold wrap64 wrp
  first | rfl | omega | (simp [IntKind.wrap, IntKind.signed, IntKind.bits]; omega)
theorem zz_bits (z : Int) (h0 : -9223372036854775808 ≤ z) (h1 : z ≤ 9223372036854775807) :
    bits .xor .u64 (IntKind.u64.wrap (wrap64 (z * 2))) (IntKind.u64.wrap (z / 9223372036854775808)) = (zz z : Int) := by
  have e1 : IntKind.u64.wrap (wrap64 (z * 2)) = (((z * 2) % 18446744073709551616).toNat : Int) := by
    rw [wrap64_wr]; unfold wrp IntKind.wrap; simp [IntKind.signed, IntKind.bits]; omega
  have hm : ((z * 2) % 18446744073709551616).toNat < 18446744073709551616 := by omega
  rw [e1]
  rcases Int.lt_or_le z 0 with h | h
  · have e2 : IntKind.u64.wrap (z / 9223372036854775808) = 18446744073709551615 := by
      have : z / 9223372036854775808 = -1 := by omega
      rw [this]; rfl
    rw [e2, u64_not _ hm]
    unfold zz
    rw [if_pos h]
    omega
  · have e2 : IntKind.u64.wrap (z / 9223372036854775808) = 0 := by
      have : z / 9223372036854775808 = 0 := by omega
      rw [this]; rfl
    rw [e2, u64_xor0 _ hm]
    unfold zz
    rw [if_neg (by omega)]
    omega
theorem unzz_bits (x : Nat) (h : x < 18446744073709551616) : bits .xor .i64 ((x : Int) / 2) (-((x : Int) % 2)) = unzz x := by
  unfold unzz
  rw [show (x : Int) / 2 = ((x / 2 : Nat) : Int) by omega]
  split
  · rw [show -((x : Int) % 2) = -1 by omega, i64_not _ (by omega)]
  · rw [show -((x : Int) % 2) = 0 by omega, i64_xor0 _ (by omega)]
theorem xz0 : bits .xor .i64 0 (wrap64 (-wrap64 (bits .and .u64 0 1))) = 0 := by kernel_rfl
theorem dvar_ok (g : Nat) (l : List (BitVec 8)) (p : Nat) (w : World) (hp : p + l.length ≤ 4611686018427387904) (hd : Ds w g l p 0) (hu : uvE l = 0) :
    Calls Try.prog 47 #[.pointer (some ⟨g, 0, none⟩)] w fun e' w' => e' = .returned (.int .i64 (unzz (uvV l))) ∧ Ds w' g (l.drop (uvN l)) (p + uvN l) 0 ∧ w.grownBy w' (some g) := by
  have hlt := uvV_lt l hu
  obtain ⟨x, hx⟩ : ∃ x, uvV l = x := ⟨_, rfl⟩
  have HX := Lib.hid hx
  have H1 := u64_and1 x (by omega)
  rw [hx] at hlt
  clear hx
  go_enter Try.func47, Try.ntmps47
  go_wp2_with ((go_at_call 46; go_loud ((with_reducible refine (uvar_ok _ _ _ _ hp hd hu).mono ?_); rw [HX.out]; rintro e1 w2 ⟨rfl, hd2, hg2⟩)))
  go_ret
  exact ⟨by rw [HX.out, ← unzz_bits x hlt]; rfl, hd2, hg2⟩
theorem dvar_bad (g : Nat) (l : List (BitVec 8)) (p : Nat) (w : World) (hp : p + l.length ≤ 4611686018427387904) (hd : Ds w g l p 0) (hu : uvE l ≠ 0) :
    Calls Try.prog 47 #[.pointer (some ⟨g, 0, none⟩)] w fun e' w' => e' = .returned (.int .i64 0) ∧ (∃ l' p', p' + l'.length = p + l.length ∧ Ds w' g l' p' (uvE l)) ∧ w.grownBy w' (some g) := by
  have H1 := u64_and1 0 (by omega)
  have H2 := i64_xor0 0 (by omega)
  go_enter Try.func47, Try.ntmps47
  go_wp2_with ((go_at_call 46; go_loud ((with_reducible refine (uvar_bad _ _ _ _ hp hd hu).mono ?_); rintro e1 w2 ⟨rfl, hd2, hg2⟩)))
  go_ret
  exact ⟨by first | rfl | (exact congrArg (fun z => Ending.returned (.int .i64 z)) xz0), hd2, hg2⟩
theorem dvar_err (g : Nat) (l : List (BitVec 8)) (p e : Nat) (w : World) (hd : Ds w g l p e) (he : e ≠ 0) :
    Calls Try.prog 47 #[.pointer (some ⟨g, 0, none⟩)] w fun e' w' => e' = .returned (.int .i64 0) ∧ w = w' := by
  have H1 := u64_and1 0 (by omega)
  have H2 := i64_xor0 0 (by omega)
  go_enter Try.func47, Try.ntmps47
  go_wp2_with ((go_at_call 46; go_loud ((with_reducible refine (uvar_err _ _ _ _ _ hd he).mono ?_); rintro e1 w2 ⟨rfl, rfl⟩)))
  go_ret
  exact ⟨by first | rfl | (exact congrArg (fun z => Ending.returned (.int .i64 z)) xz0), rfl⟩
theorem putu_at (x : Nat) (y : Int) (w : World) (hx : x < 18446744073709551616) (hy : y = (x : Int)) : Calls Try.prog 16 #[.int .u64 y] w (FrB w (putU x)) := by subst hy; exact putu_any x w hx
theorem rputu_at (x : Nat) (y : Int) (w : World) (hx : x < 18446744073709551616) (hy : y = (x : Int)) : Calls Try.prog 17 #[.int .u64 y] w (FrB w (putU x)) := by subst hy; exact rputu_any x w hx
theorem pv_any (z : Int) (w : World) (h0 : -9223372036854775808 ≤ z) (h1 : z ≤ 9223372036854775807) :
    Calls Try.prog 21 #[.int .i64 z] w (FrB w (putU (zz z))) := by
  have hz := Lib.hid (zz_lt h0 h1)
  have hb := Lib.hid (zz_bits z h0 h1)
  go_enter Try.func21, Try.ntmps21
  go_wp2_with ((go_at_call 16; go_loud ((with_reducible refine (putu_at _ _ _ hz.out hb.out).mono ?_); rintro e1 w2 ⟨a, c, rfl, hc, ho, hb2⟩)))
  go_ret
  exact ⟨a, c, rfl, hc, ho, hb2⟩
theorem zz_neg {z : Int} (h : z < 0) : (-1 - z) * 2 + 1 = (zz z : Int) := by unfold zz; rw [if_pos h]; omega
theorem zz_pos {z : Int} (h : 0 ≤ z) : z * 2 = (zz z : Int) := by unfold zz; rw [if_neg (by omega)]; omega
theorem rpv_any (z : Int) (w : World) (h0 : -9223372036854775808 ≤ z) (h1 : z ≤ 9223372036854775807) :
    Calls Try.prog 22 #[.int .i64 z] w (FrB w (putU (zz z))) := by
  have hz := Lib.hid (zz_lt h0 h1)
  rcases Int.lt_or_le z 0 with h | h
  · have hb := Lib.hid (zz_neg h)
    go_enter Try.func22, Try.ntmps22
    go_wp2_with ((go_at_call 17; go_loud ((with_reducible refine (rputu_at _ _ _ hz.out hb.out).mono ?_); rintro e1 w2 ⟨a, c, rfl, hc, ho, hb2⟩)))
    go_ret
    exact ⟨a, c, rfl, hc, ho, hb2⟩
  · have hb := Lib.hid (zz_pos h)
    go_enter Try.func22, Try.ntmps22
    go_wp2_with ((go_at_call 17; go_loud ((with_reducible refine (rputu_at _ _ _ hz.out hb.out).mono ?_); rintro e1 w2 ⟨a, c, rfl, hc, ho, hb2⟩)))
    go_ret
    exact ⟨a, c, rfl, hc, ho, hb2⟩
def dri (v p e : Int) : Ending := .returned (.tuple #[.int .i64 v, .int .i64 p, .int .i64 e])
theorem bv_out (a : Option Addr) (n c : Nat) (at' : Int) (w : World) (hn : n ≤ 4611686018427387904) (hb : at' < 0 ∨ (n : Int) < at') :
    Calls Try.prog 19 #[.slice a n c, .int .i64 at'] w fun e w' => e = dri 0 0 2 ∧ Below w.heap.size w w' := by
  go_enter Try.func19, Try.ntmps19
  go_wp2_with (first | (go_at_call 45; go_loud ((with_reducible refine (newd_bad a n c at' _ hn hb).mono ?_); rintro e1 w1 ⟨rfl, hd1, hb1⟩; obtain ⟨k1, k2⟩ := hd1.cells)) | (go_at_call 47; go_loud ((with_reducible refine (dvar_err _ _ _ _ _ hd1 (by decide)).mono ?_); rintro e1 w2 ⟨rfl, rfl⟩)))
  go_quiet (fail)
  go_wp2
  go_ret3
  exact ⟨rfl, below_drewN hb1 _⟩
theorem bv_ok (a : Option Addr) (n c k : Nat) (l : List (BitVec 8)) (w : World) (hn : l.length = n) (hc : n ≤ c) (hl : n ≤ 4611686018427387904) (hr : Rd w a l) (hk : k ≤ n) (hu : uvE (l.drop k) = 0) :
    Calls Try.prog 19 #[.slice a n c, .int .i64 k] w fun e w' => e = dri (unzz (uvV (l.drop k))) ((k + uvN (l.drop k) : Nat) : Int) 0 ∧ Below w.heap.size w w' := by
  have hp : k + (l.drop k).length ≤ 4611686018427387904 := by rw [List.length_drop]; omega
  go_enter Try.func19, Try.ntmps19
  go_wp2_with (first | (go_at_call 45; go_loud ((with_reducible refine (newd_ok a n c k l _ hn hc hl hr hk).mono ?_); rintro e1 w1 ⟨rfl, hd1, hb1⟩)) | (go_at_call 47; go_loud ((with_reducible refine (dvar_ok _ _ _ _ hp hd1 hu).mono ?_); rintro e1 w2 ⟨rfl, hd2, hg2⟩; obtain ⟨k1, k2⟩ := hd2.cells)))
  go_quiet (fail)
  go_wp2
  go_ret3
  exact ⟨rfl, below_drewN (hb1.grown hg2 hb1.size (fun q hq => by cases hq; exact Nat.le_refl _)) _⟩
theorem bv_bad (a : Option Addr) (n c k : Nat) (l : List (BitVec 8)) (w : World) (hn : l.length = n) (hc : n ≤ c) (hl : n ≤ 4611686018427387904) (hr : Rd w a l) (hk : k ≤ n) (hu : uvE (l.drop k) ≠ 0) :
    Calls Try.prog 19 #[.slice a n c, .int .i64 k] w fun e w' => e = dri 0 0 (uvE (l.drop k)) ∧ Below w.heap.size w w' := by
  have hp : k + (l.drop k).length ≤ 4611686018427387904 := by rw [List.length_drop]; omega
  have q1 : (((uvE (l.drop k) : Nat) : Int) == 0) = false := by simp; exact hu
  have q2 : (((uvE (l.drop k) : Nat) : Int) != 0) = true := by simp; exact hu
  have HU := Lib.hid hu
  clear hu
  go_enter Try.func19, Try.ntmps19
  go_wp2_with (first | (go_at_call 45; go_loud ((with_reducible refine (newd_ok a n c k l _ hn hc hl hr hk).mono ?_); rintro e1 w1 ⟨rfl, hd1, hb1⟩)) | (go_at_call 47; go_loud ((with_reducible refine (dvar_bad _ _ _ _ hp hd1 HU.out).mono ?_); rintro e1 w2 ⟨rfl, ⟨l', p', hlp, hd2⟩, hg2⟩; obtain ⟨k1, k2⟩ := hd2.cells)))
  go_quiet (fail)
  go_wp2
  go_ret3
  exact ⟨rfl, below_drewN (hb1.grown hg2 hb1.size (fun q hq => by cases hq; exact Nat.le_refl _)) _⟩
theorem rv_out (a : Option Addr) (n c : Nat) (at' : Int) (w : World) (hn : n ≤ 4611686018427387904) (hb : at' < 0 ∨ (n : Int) < at') :
    Calls Try.prog 20 #[.slice a n c, .int .i64 at'] w fun e w' => e = dri 0 0 2 ∧ w = w' := by
  go_enter Try.func20, Try.ntmps20
  go_wp2_with ((go_at_call 14; go_loud ((with_reducible refine (ru_out _ _ _ _ _ hn hb).mono ?_); rintro e1 w1 ⟨rfl, rfl⟩; unfold tri)))
  go_ret3
  exact ⟨rfl, rfl⟩
theorem rv_ok (a : Option Addr) (n c k : Nat) (l : List (BitVec 8)) (w : World) (hn : l.length = n) (hl : n ≤ 4611686018427387904) (hr : Rd w a l) (hk : k ≤ n) (hu : uvE (l.drop k) = 0) :
    Calls Try.prog 20 #[.slice a n c, .int .i64 k] w fun e w' => e = dri (unzz (uvV (l.drop k))) ((k + uvN (l.drop k) : Nat) : Int) 0 ∧ w = w' := by
  have hlt := uvV_lt _ hu
  obtain ⟨x, hx⟩ : ∃ x, uvV (l.drop k) = x := ⟨_, rfl⟩
  obtain ⟨q, hq⟩ : ∃ q, k + uvN (l.drop k) = q := ⟨_, rfl⟩
  have HR := Lib.hid (show Calls Try.prog 14 #[.slice a n c, .int .i64 k] w fun e w' => e = tri x q 0 ∧ w = w' from by
    rw [← hx, ← hq]; exact ru_ok a n c k l w hn hl hr hk hu)
  rw [hx] at hlt ⊢
  rw [hq]
  clear hx hq
  rcases Nat.mod_two_eq_zero_or_one x with hp | hp
  · have g1 : (((x : Int) % 2) == 1) = false := by simp; omega
    have HP := Lib.hid hp
    clear hp
    go_enter Try.func20, Try.ntmps20
    go_wp2_with ((go_at_call 14; go_loud ((with_reducible refine HR.out.mono ?_); rintro e1 w1 ⟨rfl, rfl⟩; unfold tri)))
    go_ret3
    refine ⟨?_, rfl⟩
    unfold unzz
    rw [if_neg (by have := HP.out; omega)]
    rfl
  · have g1 : (((x : Int) % 2) == 1) = true := by simp; omega
    have HP := Lib.hid hp
    clear hp
    go_enter Try.func20, Try.ntmps20
    go_wp2_with ((go_at_call 14; go_loud ((with_reducible refine HR.out.mono ?_); rintro e1 w1 ⟨rfl, rfl⟩; unfold tri)))
    go_ret3
    refine ⟨?_, rfl⟩
    unfold unzz
    rw [if_pos HP.out]
    rfl
theorem rv_bad (a : Option Addr) (n c k : Nat) (l : List (BitVec 8)) (w : World) (hn : l.length = n) (hl : n ≤ 4611686018427387904) (hr : Rd w a l) (hk : k ≤ n) (hu : uvE (l.drop k) ≠ 0) :
    Calls Try.prog 20 #[.slice a n c, .int .i64 k] w fun e w' => e = dri 0 0 (uvE (l.drop k)) ∧ w = w' := by
  have q1 : (((uvE (l.drop k) : Nat) : Int) == 0) = false := by simp; exact hu
  have q2 : (((uvE (l.drop k) : Nat) : Int) != 0) = true := by simp; exact hu
  have HU := Lib.hid hu
  clear hu
  go_enter Try.func20, Try.ntmps20
  go_wp2_with ((go_at_call 14; go_loud ((with_reducible refine (ru_bad _ _ _ _ _ _ hn hl hr hk HU.out).mono ?_); rintro e1 w1 ⟨rfl, rfl⟩; unfold tri)))
  go_ret3
  exact ⟨rfl, rfl⟩
end Go.Proofs.Ytbplcgbfhijbcaa
