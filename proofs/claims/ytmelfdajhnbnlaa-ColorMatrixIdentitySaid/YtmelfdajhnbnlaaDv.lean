
import Derived.Test.YtmelfdajhnbnlaaRows
import Derived.Test.YtmelfdajhnbnlaaShelf
import Derived.Test.YtmelfdajhnbnlaaDivNum
import Derived.WalkKit
import Derived.WalkSpells
import Derived.WalkLawsBesides
import Derived.Lib.Hide
namespace Go.Proofs.Ytmelfdajhnbnlaa
open Go.RowKit
set_option linter.unusedVariables false
theorem lz64 (y s : Nat) (h : y < 18446744073709551616) (hs : s ≤ 63) (hb : Lib.bitLen y = 64 - s) (w : World) :
    Calls Try.prog 28 #[.int .u64 y] w fun e w' => e = .returned (.int .i64 s) ∧ w = w' := by
  refine (Try.bits_LeadingZeros64 y w (by omega) (by omega)).mono ?_
  rintro e w' ⟨rfl, rfl⟩
  refine ⟨?_, rfl⟩
  rw [Int.toNat_natCast, hb]
  congr 2
  omega

theorem divided (hi lo y : Nat) (h1 : hi < y) (h2 : y < 18446744073709551616) (h4 : lo < 18446744073709551616) :
    ∃ (s : Nat) (Y Y1 Y0 U L U1 U0 : Int), s ≤ 63 ∧ Lib.bitLen y = 64 - s ∧ IntKind.u64.wrap ((y : Int) * 2 ^ s) = Y ∧ Y / 4294967296 = Y1 ∧ bits .and .u64 Y 4294967295 = Y0 ∧
      bits .or .u64 (IntKind.u64.wrap ((hi : Int) * 2 ^ s)) ((lo : Int) / 2 ^ (64 - s)) = U ∧ IntKind.u64.wrap ((lo : Int) * 2 ^ s) = L ∧ L / 4294967296 = U1 ∧ bits .and .u64 L 4294967295 = U0 ∧
      Y = Y1 * 4294967296 + Y0 ∧ L = U1 * 4294967296 + U0 ∧ 2147483648 ≤ Y1 ∧ Y1 ≤ 4294967295 ∧ 0 ≤ Y0 ∧ Y0 ≤ 4294967295 ∧ 0 ≤ U1 ∧ U1 ≤ 4294967295 ∧ 0 ≤ U0 ∧ U0 ≤ 4294967295 ∧
      0 ≤ U ∧ U < Y ∧ Y = (y : Int) * 2 ^ s ∧ ((hi : Int) * 18446744073709551616 + lo) * 2 ^ s = U * 18446744073709551616 + L := by
  obtain ⟨s, hs, hb, hY0, hY1⟩ := DivNum.shift_of y h2 (by omega)
  obtain ⟨b1, b2, hor, hUY, hN⟩ := DivNum.shifted hi lo y s hs h1 h4 hY1
  have c1 : (y : Int) * 2 ^ s = ((y * 2 ^ s : Nat) : Int) := by norm_cast
  have c2 : (hi : Int) * 2 ^ s = ((hi * 2 ^ s : Nat) : Int) := by norm_cast
  have c3 : (lo : Int) * 2 ^ s = ((lo * 2 ^ s : Nat) : Int) := by norm_cast
  have c4 : (lo : Int) / 2 ^ (64 - s) = ((lo / 2 ^ (64 - s) : Nat) : Int) := by simp
  have c5 : ((hi : Int) * 18446744073709551616 + lo) * 2 ^ s = (((hi * 18446744073709551616 + lo) * 2 ^ s : Nat) : Int) := by rw [Int.natCast_mul, Int.natCast_add, Int.natCast_mul, Int.natCast_pow]; rfl
  have w1 : IntKind.u64.wrap ((y : Int) * 2 ^ s) = ((y * 2 ^ s : Nat) : Int) := by rw [c1, IntKind.wrap_u64]; omega
  have w2 : IntKind.u64.wrap ((hi : Int) * 2 ^ s) = ((hi * 2 ^ s : Nat) : Int) := by rw [c2, IntKind.wrap_u64]; omega
  have w3 : IntKind.u64.wrap ((lo : Int) * 2 ^ s) = ((lo * 2 ^ s % 18446744073709551616 : Nat) : Int) := by rw [c3, IntKind.wrap_u64]; omega
  have w4 : ∀ n : Nat, n < 18446744073709551616 → bits .and .u64 (n : Int) 4294967295 = ((n % 4294967296 : Nat) : Int) := by
    intro n hn
    have h := bits_and_u64_nat n 4294967295 hn (by omega)
    have e : n &&& 4294967295 = n % 4294967296 := Nat.and_two_pow_sub_one_eq_mod n 32
    rw [e] at h
    exact h
  have w5 : bits .or .u64 ((hi * 2 ^ s : Nat) : Int) ((lo / 2 ^ (64 - s) : Nat) : Int) = ((hi * 2 ^ s + lo / 2 ^ (64 - s) : Nat) : Int) := by rw [bits_or_u64_nat _ _ b1 b2, hor]
  refine ⟨s, _, _, _, _, _, _, _, hs, hb, rfl, rfl, rfl, rfl, rfl, rfl, rfl, ?_⟩
  rw [w2, c4, w5, w1, w3, w4 _ hY1, w4 _ (Nat.mod_lt _ (by omega)), c1, c5, hN]
  generalize y * 2 ^ s = a at *
  generalize hi * 2 ^ s + lo / 2 ^ (64 - s) = b at *
  generalize lo * 2 ^ s = c at *
  refine ⟨?_, ?_, ?_, ?_, ?_, ?_, ?_, ?_, ?_, ?_, ?_, ?_, ?_, ?_⟩ <;> omega

theorem rem_wraps (U U1 Y D : Int) (hD : (U * 4294967296 + U1) / Y = D) (hY : 0 < Y) (hY2 : Y ≤ 18446744073709551615) :
    IntKind.u64.wrap (IntKind.u64.wrap (IntKind.u64.wrap (U * 4294967296) + U1) - IntKind.u64.wrap (D * Y)) = (U * 4294967296 + U1) % Y := by
  have h := DivNum.rem_wrap U U1 Y hY (by omega)
  rw [hD] at h
  rw [← h]
  simp only [IntKind.wrap_u64]
  generalize D * Y = z at *
  omega

set_option maxHeartbeats 1000000 in
theorem div64_big (hi lo y : Nat) (h0 : 1 ≤ hi) (h1 : hi < y) (h2 : y < 18446744073709551616) (h4 : lo < 18446744073709551616) (w : World) :
    Calls Try.prog 20 #[.int .u64 hi, .int .u64 lo, .int .u64 y] w fun e w' => e = .returned (.tuple #[.int .u64 ((hi * 18446744073709551616 + lo : Int) / y), .int .u64 ((hi * 18446744073709551616 + lo : Int) % y)]) ∧ w = w' := by
  obtain ⟨s, Y, Y1, Y0, U, L, U1, U0, hs, hb, e1, e2, e3, e4, e5, e6, e7, hY, hL, a1, a2, a3, a4, a5, a6, a7, a8, a9, a10, hYp, hN⟩ := divided hi lo y h1 h2 h4
  obtain ⟨q0, q1, q2, q3⟩ := DivNum.quo_mul U Y1 (by omega) a9
  have q4 := DivNum.init_hi U Y Y1 Y0 hY a10 a1 (by omega)
  have q5 := DivNum.init_lo U U1 Y Y1 Y0 hY a1 a3 (by omega) a9
  have d0 : 0 ≤ (U * 4294967296 + U1) / Y := Int.ediv_nonneg (by omega) (by omega)
  have d1 := DivNum.digit_lt U U1 Y a9 a10 (by omega)
  obtain ⟨D, eD⟩ : ∃ D, (U * 4294967296 + U1) / Y = D := ⟨_, rfl⟩
  rw [eD] at q5 d0 d1
  have eR := rem_wraps U U1 Y D eD (by omega) (by omega)
  have r0 := Int.emod_nonneg (U * 4294967296 + U1) (b := Y) (by omega)
  have r1 := Int.emod_lt_of_pos (U * 4294967296 + U1) (b := Y) (by omega)
  obtain ⟨R, eRR⟩ : ∃ R, (U * 4294967296 + U1) % Y = R := ⟨_, rfl⟩
  rw [eRR] at eR r0 r1
  have HR := Lib.hid eR; clear eR
  have HRR := Lib.hid eRR; clear eRR
  obtain ⟨t0, t1, t2, t3⟩ := DivNum.quo_mul R Y1 (by omega) r0
  have t4 := DivNum.init_hi R Y Y1 Y0 hY r1 a1 (by omega)
  have t5 := DivNum.init_lo R U0 Y Y1 Y0 hY a1 a3 (by omega) r0
  have g0 : 0 ≤ (R * 4294967296 + U0) / Y := Int.ediv_nonneg (by omega) (by omega)
  have g1 := DivNum.digit_lt R U0 Y r0 r1 (by omega)
  obtain ⟨G, eG⟩ : ∃ G, (R * 4294967296 + U0) / Y = G := ⟨_, rfl⟩
  rw [eG] at t5 g0 g1
  have eF := rem_wraps R U0 Y G eG (by omega) (by omega)
  have eFin : IntKind.u64.wrap (IntKind.u64.wrap (IntKind.u64.wrap (R * 4294967296) + U0) - IntKind.u64.wrap (G * Y)) / 2 ^ s = ((hi : Int) * 18446744073709551616 + lo) % y := by
    rw [eF, ← HRR.out]
    exact (DivNum.both ((hi : Int) * 18446744073709551616 + lo) Y y (2 ^ s) U L (by omega) (Int.pow_pos (by omega)) hYp hN U1 U0 hL a7 (by omega)).2
  have eQuo : D * 4294967296 + G = ((hi : Int) * 18446744073709551616 + lo) / y := by
    rw [← eG, ← eD, ← HRR.out]
    exact (DivNum.both ((hi : Int) * 18446744073709551616 + lo) Y y (2 ^ s) U L (by omega) (Int.pow_pos (by omega)) hYp hN U1 U0 hL a7 (by omega)).1
  have HFin := Lib.hid eFin
  have HQuo := Lib.hid eQuo
  have HG := Lib.hid eG; clear eG
  have HD := Lib.hid eD; clear eD eFin eQuo eF
  have HY := Lib.hid hY; have HL := Lib.hid hL; have HN := Lib.hid hN; have HYp := Lib.hid hYp
  have HB := Lib.hid hb
  have hlz := lz64 y s h2 hs hb
  have hms : min s 64 = s := by omega
  have hms2 : min ((64 : Int) - (s : Int)).toNat 64 = 64 - s := by omega
  have y1 : 9223372036854775808 ≤ Y := by omega
  have y2 : Y ≤ 18446744073709551615 := by omega
  have l1 : 0 ≤ L := by omega
  have l2 : L ≤ 18446744073709551615 := by omega
  clear hY hL hN hYp hb
  go_enter Try.func20, Try.ntmps20
  go_wp2_with (go_at_call 28; refine (hlz _).mono ?_; rintro e w' ⟨rfl, rfl⟩)
  clear e1 e2 e3 e4 e5 e6 e7
  go_loop [15, 16] (fun q r => ∃ a b : Int, q = .int .u64 a ∧ r = .int .u64 b ∧ a * Y1 + b = U ∧ D ≤ a ∧ a ≤ 4294967297 ∧ 0 ≤ a ∧ 0 ≤ b ∧ b < 4294967296) (fun q _ => (intOf q).toNat)
  case atStart => exact ⟨U / Y1, U - U / Y1 * Y1, rfl, rfl, by omega, q5, q4, q0, by omega, by omega⟩
  case round =>
    obtain ⟨a, b, rfl, rfl, hab, hd, ha1, ha0, hb0, hb1⟩ := hrel
    have p := DivNum.prod_bd a Y0 ha0 ha1 a3 (by omega)
    obtain ⟨p0, p1⟩ := p
    by_cases c : 4294967296 ≤ a ∨ 4294967296 * b + U1 < a * Y0
    · have dn := DivNum.down U U1 Y Y1 Y0 a b HY.out a1 a3 (by omega) a9 a10 hab c
      rw [HD.out] at dn
      by_cases cb : b + Y1 < 4294967296
      · have hab' : (a - 1) * Y1 + (b + Y1) = U := by grind
        by_cases ca : 4294967296 ≤ a
        all_goals
          clear hab
          go_wp2
          go_round
          case rel => exact ⟨a - 1, b + Y1, rfl, rfl, hab', dn, by omega, by omega, by omega, by omega⟩
          case measure => simp [intOf]; omega
      · have hab' : (a - 1) * Y1 + (b + Y1) = U := by grind
        have ex := DivNum.exit2 U U1 Y Y1 Y0 (a - 1) (b + Y1) HY.out a1 a3 (by omega) a5 hab' (by rw [HD.out]; exact dn) (by omega) (by omega)
        rw [HD.out] at ex
        obtain rfl : a = D + 1 := by omega
        clear hab hab' ex
        have eR := HR.out
        by_cases ca : 4294967296 ≤ D + 1
        all_goals
          go_wp2
          clear eR
          go_loop [18, 16] (fun q r => ∃ a b : Int, q = .int .u64 a ∧ r = .int .u64 b ∧ a * Y1 + b = R ∧ G ≤ a ∧ a ≤ 4294967297 ∧ 0 ≤ a ∧ 0 ≤ b ∧ b < 4294967296) (fun q _ => (intOf q).toNat)
          case atStart => exact ⟨R / Y1, R - R / Y1 * Y1, rfl, rfl, by omega, t5, t4, t0, by omega, by omega⟩
          case round =>
            obtain ⟨a, b, rfl, rfl, hab, hd, ha1, ha0, hb0, hb1⟩ := hrel
            have p := DivNum.prod_bd a Y0 ha0 ha1 a3 (by omega)
            obtain ⟨p0, p1⟩ := p
            by_cases c : 4294967296 ≤ a ∨ 4294967296 * b + U0 < a * Y0
            · have dn := DivNum.down R U0 Y Y1 Y0 a b HY.out a1 a3 (by omega) r0 r1 hab c
              rw [HG.out] at dn
              by_cases cb : b + Y1 < 4294967296
              · have hab' : (a - 1) * Y1 + (b + Y1) = R := by grind
                by_cases ca : 4294967296 ≤ a
                all_goals
                  clear hab
                  go_wp2
                  go_round
                  case rel => exact ⟨a - 1, b + Y1, rfl, rfl, hab', dn, by omega, by omega, by omega, by omega⟩
                  case measure => simp [intOf]; omega
              · have hab' : (a - 1) * Y1 + (b + Y1) = R := by grind
                have ex := DivNum.exit2 R U0 Y Y1 Y0 (a - 1) (b + Y1) HY.out a1 a3 (by omega) a7 hab' (by rw [HG.out]; exact dn) (by omega) (by omega)
                rw [HG.out] at ex
                obtain rfl : a = G + 1 := by omega
                clear hab hab' ex
                by_cases ca : 4294967296 ≤ G + 1
                all_goals
                  go_wp2
                  go_ret2
                  exact ⟨by rw [HFin.out, HQuo.out]; rfl, rfl⟩
            · have ex := DivNum.exit1 R U0 Y Y1 Y0 a b HY.out a1 a3 hab (by rw [HG.out]; exact hd) (by omega)
              rw [HG.out] at ex
              obtain rfl : G = a := ex.symm
              clear hab
              go_wp2
              go_ret2
              exact ⟨by rw [HFin.out, HQuo.out]; rfl, rfl⟩
    · have ex := DivNum.exit1 U U1 Y Y1 Y0 a b HY.out a1 a3 hab (by rw [HD.out]; exact hd) (by omega)
      rw [HD.out] at ex
      obtain rfl : D = a := ex.symm
      clear hab
      have eR := HR.out
      go_wp2
      clear eR
      go_loop [18, 16] (fun q r => ∃ a b : Int, q = .int .u64 a ∧ r = .int .u64 b ∧ a * Y1 + b = R ∧ G ≤ a ∧ a ≤ 4294967297 ∧ 0 ≤ a ∧ 0 ≤ b ∧ b < 4294967296) (fun q _ => (intOf q).toNat)
      case atStart => exact ⟨R / Y1, R - R / Y1 * Y1, rfl, rfl, by omega, t5, t4, t0, by omega, by omega⟩
      case round =>
        obtain ⟨a, b, rfl, rfl, hab, hd, ha1, ha0, hb0, hb1⟩ := hrel
        have p := DivNum.prod_bd a Y0 ha0 ha1 a3 (by omega)
        obtain ⟨p0, p1⟩ := p
        by_cases c : 4294967296 ≤ a ∨ 4294967296 * b + U0 < a * Y0
        · have dn := DivNum.down R U0 Y Y1 Y0 a b HY.out a1 a3 (by omega) r0 r1 hab c
          rw [HG.out] at dn
          by_cases cb : b + Y1 < 4294967296
          · have hab' : (a - 1) * Y1 + (b + Y1) = R := by grind
            by_cases ca : 4294967296 ≤ a
            all_goals
              clear hab
              go_wp2
              go_round
              case rel => exact ⟨a - 1, b + Y1, rfl, rfl, hab', dn, by omega, by omega, by omega, by omega⟩
              case measure => simp [intOf]; omega
          · have hab' : (a - 1) * Y1 + (b + Y1) = R := by grind
            have ex := DivNum.exit2 R U0 Y Y1 Y0 (a - 1) (b + Y1) HY.out a1 a3 (by omega) a7 hab' (by rw [HG.out]; exact dn) (by omega) (by omega)
            rw [HG.out] at ex
            obtain rfl : a = G + 1 := by omega
            clear hab hab' ex
            by_cases ca : 4294967296 ≤ G + 1
            all_goals
              go_wp2
              go_ret2
              exact ⟨by rw [HFin.out, HQuo.out]; rfl, rfl⟩
        · have ex := DivNum.exit1 R U0 Y Y1 Y0 a b HY.out a1 a3 hab (by rw [HG.out]; exact hd) (by omega)
          rw [HG.out] at ex
          obtain rfl : G = a := ex.symm
          clear hab
          go_wp2
          go_ret2
          exact ⟨by rw [HFin.out, HQuo.out]; rfl, rfl⟩
end Go.Proofs.Ytmelfdajhnbnlaa
