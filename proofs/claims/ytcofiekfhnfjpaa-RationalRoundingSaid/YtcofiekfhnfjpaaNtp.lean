
import Derived.Test.YtcofiekfhnfjpaaNz3
import Derived.Test.YtcofiekfhnfjpaaJ8
namespace Go.Proofs.Ytcofiekfhnfjpaa
open Go.RowKit
set_option linter.unusedVariables false
set_option linter.unusedSimpArgs false
attribute [local go_sem ↓] Go.wp_at_zero Go.wp_at_succ
/-- The numerator and denominator that positiveDen answers. -/
def pN (x y : Int) : Int := if y = 0 then 0 else if y < 0 then -x else x
def pD (y : Int) : Int := if y = 0 then 1 else if y < 0 then -y else y
theorem pD_pos (y : Int) : 0 < pD y := by unfold pD; split <;> (try split) <;> omega
theorem lex_sign (P Q : Nat) : (if (((P / 18446744073709551616 : Nat) : Int) - ((Q / 18446744073709551616 : Nat) : Int)).sign = 0 then (((P % 18446744073709551616 : Nat) : Int) - ((Q % 18446744073709551616 : Nat) : Int)).sign else (((P / 18446744073709551616 : Nat) : Int) - ((Q / 18446744073709551616 : Nat) : Int)).sign) = ((P : Int) - (Q : Int)).sign := by
  rcases Nat.lt_trichotomy (P / 18446744073709551616) (Q / 18446744073709551616) with h | h | h
  · have e1 : (((P / 18446744073709551616 : Nat) : Int) - ((Q / 18446744073709551616 : Nat) : Int)).sign = -1 := Int.sign_eq_neg_one_of_neg (by omega)
    have e2 : ((P : Int) - (Q : Int)).sign = -1 := Int.sign_eq_neg_one_of_neg (by omega)
    rw [e1, e2]
    rfl
  · have e1 : ((P / 18446744073709551616 : Nat) : Int) - ((Q / 18446744073709551616 : Nat) : Int) = 0 := by omega
    have e2 : ((P % 18446744073709551616 : Nat) : Int) - ((Q % 18446744073709551616 : Nat) : Int) = (P : Int) - (Q : Int) := by omega
    rw [e1, e2]
    rfl
  · have e1 : (((P / 18446744073709551616 : Nat) : Int) - ((Q / 18446744073709551616 : Nat) : Int)).sign = 1 := Int.sign_eq_one_of_pos (by omega)
    have e2 : ((P : Int) - (Q : Int)).sign = 1 := Int.sign_eq_one_of_pos (by omega)
    rw [e1, e2]
    rfl
theorem sign_wrap (z : Int) : IntKind.i64.wrap (-z.sign) = -z.sign := by
  rcases Int.lt_trichotomy z 0 with h | h | h
  · rw [Int.sign_eq_neg_one_of_neg h]; decide
  · subst h; decide
  · rw [Int.sign_eq_one_of_pos h]; decide
theorem sgn_same (x u : Int) (Y V : Nat) (h : decide (x < 0) = decide (u < 0)) : (if decide (x < 0) = true then -(((x.natAbs * V : Nat) : Int) - ((u.natAbs * Y : Nat) : Int)).sign else (((x.natAbs * V : Nat) : Int) - ((u.natAbs * Y : Nat) : Int)).sign) = (x * (V : Int) - u * (Y : Int)).sign := by
  rw [Int.natCast_mul, Int.natCast_mul]
  by_cases hx : x < 0
  · have hu : u < 0 := by simpa [hx] using h
    rw [if_pos (by simpa using hx)]
    have e1 : ((x.natAbs : Nat) : Int) = -x := by omega
    have e2 : ((u.natAbs : Nat) : Int) = -u := by omega
    rw [e1, e2, Int.neg_mul, Int.neg_mul, ← Int.sign_neg]
    congr 1
    omega
  · have hu : ¬ u < 0 := by simpa [hx] using h
    rw [if_neg (by simpa using hx)]
    have e1 : ((x.natAbs : Nat) : Int) = x := by omega
    have e2 : ((u.natAbs : Nat) : Int) = u := by omega
    rw [e1, e2]
theorem sgn_of (x u y v : Int) (hy : 0 < y) (hv : 0 < v) (h : x.sign ≠ u.sign) : (x.sign - u.sign).sign = (x * v - u * y).sign ∧ (decide (x < 0) ≠ decide (u < 0) → (x - u).sign = (x * v - u * y).sign) := by
  rcases Int.lt_trichotomy x 0 with hx | hx | hx
  · have h1 := Int.mul_neg_of_neg_of_pos hx hv
    have sx : x.sign = -1 := Int.sign_eq_neg_one_of_neg hx
    rcases Int.lt_trichotomy u 0 with hu | hu | hu
    · exact absurd (sx.trans (Int.sign_eq_neg_one_of_neg hu).symm) h
    · subst hu
      rw [Int.zero_mul, Int.sub_zero, Int.sub_zero, sx, Int.sign_eq_neg_one_of_neg h1]
      exact ⟨rfl, fun _ => rfl⟩
    · have h2 := Int.mul_pos hu hy
      rw [sx, Int.sign_eq_one_of_pos hu, Int.sign_eq_neg_one_of_neg (show x * v - u * y < 0 by omega), Int.sign_eq_neg_one_of_neg (show x - u < 0 by omega)]
      exact ⟨rfl, fun _ => rfl⟩
  · subst hx
    rcases Int.lt_trichotomy u 0 with hu | hu | hu
    · have h2 := Int.mul_neg_of_neg_of_pos hu hy
      rw [Int.zero_mul, Int.sign_zero, Int.sign_eq_neg_one_of_neg hu, Int.sign_eq_one_of_pos (show 0 - u * y > 0 by omega), Int.sign_eq_one_of_pos (show 0 - u > 0 by omega)]
      exact ⟨rfl, fun _ => rfl⟩
    · subst hu; exact absurd rfl h
    · have h2 := Int.mul_pos hu hy
      rw [Int.zero_mul, Int.sign_zero, Int.sign_eq_one_of_pos hu, Int.sign_eq_neg_one_of_neg (show 0 - u * y < 0 by omega), Int.sign_eq_neg_one_of_neg (show 0 - u < 0 by omega)]
      exact ⟨rfl, fun _ => rfl⟩
  · have h1 := Int.mul_pos hx hv
    have sx : x.sign = 1 := Int.sign_eq_one_of_pos hx
    rcases Int.lt_trichotomy u 0 with hu | hu | hu
    · have h2 := Int.mul_neg_of_neg_of_pos hu hy
      rw [sx, Int.sign_eq_neg_one_of_neg hu, Int.sign_eq_one_of_pos (show x * v - u * y > 0 by omega), Int.sign_eq_one_of_pos (show x - u > 0 by omega)]
      exact ⟨rfl, fun _ => rfl⟩
    · subst hu
      rw [Int.zero_mul, Int.sub_zero, Int.sub_zero, sx, Int.sign_eq_one_of_pos h1]
      exact ⟨rfl, fun _ => rfl⟩
    · exact absurd (sx.trans (Int.sign_eq_one_of_pos hu).symm) h
theorem lds_at (s t : Bool) (l k : List (BitVec 32)) (hl : l.length ≤ 1000000) (hk : k.length ≤ 1000000) :
    (∃ (x : Int) (Y : Nat), pN (zv s (valD l)) (zv t (valD k)) = x ∧ pD (zv t (valD k)) = (Y : Int) ∧ 0 < Y ∧ Y < 9223372036854775808 ∧ -9223372036854775807 ≤ x ∧ x ≤ 9223372036854775807 ∧ ∀ W (v1 v2 : Option Addr) (k1 k2 : Nat), Rw W v1 l → Rw W v2 k → Calls Try.prog 74 #[.agg #[.bool s, .slice v1 l.length k1, .bool t, .slice v2 k.length k2]] W fun e w' => e = .returned (.tuple #[.agg #[.int .i64 x, .int .i64 (Y : Int)], .bool true]) ∧ Below W.heap.size W w') ∨
    (∀ W (v1 v2 : Option Addr) (k1 k2 : Nat), Rw W v1 l → Rw W v2 k → Calls Try.prog 74 #[.agg #[.bool s, .slice v1 l.length k1, .bool t, .slice v2 k.length k2]] W fun e w' => e = .returned (.tuple #[.agg #[.int .i64 0, .int .i64 0], .bool false]) ∧ Below W.heap.size W w') := by
  by_cases h1 : smB l = true
  · by_cases h2 : smB k = true
    · have hb := smB_bd s l _ h1 rfl
      have hb2 := smB_bd t k _ h2 rfl
      left
      rcases Int.lt_trichotomy (zv t (valD k)) 0 with hy | hy | hy
      · obtain ⟨Y, hY⟩ := Int.eq_ofNat_of_zero_le (show 0 ≤ -(zv t (valD k)) by omega)
        refine ⟨_, Y, rfl, by unfold pD; rw [if_neg (by omega), if_pos hy]; exact hY, by omega, by omega, by unfold pN; rw [if_neg (by omega), if_pos hy]; omega, by unfold pN; rw [if_neg (by omega), if_pos hy]; omega, fun W v1 v2 k1 k2 hr hs => ?_⟩
        rw [show pN (zv s (valD l)) (zv t (valD k)) = -(zv s (valD l)) from by unfold pN; rw [if_neg (by omega), if_pos hy], ← hY]
        exact lds_neg s t v1 v2 _ k1 _ k2 l k _ _ W rfl rfl hl hk hr hs h1 h2 rfl rfl hy
      · refine ⟨_, 1, rfl, by unfold pD; rw [if_pos hy]; rfl, by omega, by omega, by unfold pN; rw [if_pos hy]; omega, by unfold pN; rw [if_pos hy]; omega, fun W v1 v2 k1 k2 hr hs => ?_⟩
        rw [show pN (zv s (valD l)) (zv t (valD k)) = 0 from by unfold pN; rw [if_pos hy]]
        exact lds_zero s t v1 v2 _ k1 _ k2 l k _ _ W rfl rfl hl hk hr hs h1 h2 rfl rfl hy
      · obtain ⟨Y, hY⟩ := Int.eq_ofNat_of_zero_le (Int.le_of_lt hy)
        refine ⟨_, Y, rfl, by unfold pD; rw [if_neg (by omega), if_neg (by omega)]; exact hY, by omega, by omega, by unfold pN; rw [if_neg (by omega), if_neg (by omega)]; omega, by unfold pN; rw [if_neg (by omega), if_neg (by omega)]; omega, fun W v1 v2 k1 k2 hr hs => ?_⟩
        rw [show pN (zv s (valD l)) (zv t (valD k)) = zv s (valD l) from by unfold pN; rw [if_neg (by omega), if_neg (by omega)]]
        exact lds_pos s t v1 v2 _ k1 _ k2 l k _ _ W rfl rfl hl hk hr hs h1 h2 rfl hY (by omega)
    · exact .inr fun W v1 v2 k1 k2 hr hs => lds_no2 s t v1 v2 _ k1 _ k2 l k W rfl rfl hl hk hr hs h1 (by simpa using h2)
  · exact .inr fun W v1 v2 k1 k2 hr hs => lds_no1 s t v1 v2 _ k1 _ k2 l k W rfl rfl hl hk hr hs (by simpa using h1)
theorem cs_any (s t s2 t2 : Bool) (a b a2 b2 : Option Addr) (c d c2 d2 : Nat) (l k l2 m2 : List (BitVec 32)) (h1 : l.length ≤ 100000) (h2 : k.length ≤ 100000) (h3 : l2.length ≤ 100000) (h4 : m2.length ≤ 100000) :
    (∀ W, Rw W a l → Rw W b k → Rw W a2 l2 → Rw W b2 m2 → Calls Try.prog 68 #[.agg #[.bool s, .slice a l.length c, .bool t, .slice b k.length d], .agg #[.bool s2, .slice a2 l2.length c2, .bool t2, .slice b2 m2.length d2]] W fun e w' => e = .returned (.tuple #[.int .i64 (pN (zv s (valD l)) (zv t (valD k)) * pD (zv t2 (valD m2)) - pN (zv s2 (valD l2)) (zv t2 (valD m2)) * pD (zv t (valD k))).sign, .bool true]) ∧ Below W.heap.size W w') ∨
    (∀ W, Rw W a l → Rw W b k → Rw W a2 l2 → Rw W b2 m2 → Calls Try.prog 68 #[.agg #[.bool s, .slice a l.length c, .bool t, .slice b k.length d], .agg #[.bool s2, .slice a2 l2.length c2, .bool t2, .slice b2 m2.length d2]] W fun e w' => e = .returned (.tuple #[.int .i64 0, .bool false]) ∧ Below W.heap.size W w') := by
  rcases lds_at s t l k (by omega) (by omega) with ⟨x, Y, hx, hY, hY0, hY1, hx0, hx1, hA⟩ | hA
  · rcases lds_at s2 t2 l2 m2 (by omega) (by omega) with ⟨u, V, hu, hV, hV0, hV1, hu0, hu1, hB⟩ | hB
    · left
      intro W hr hs hr2 hs2
      rw [hx, hV, hu, hY]
      by_cases hq : decide (x < 0) = decide (u < 0)
      · have hX := Nat.lt_of_le_of_lt (show x.natAbs ≤ 9223372036854775807 by omega) (show 9223372036854775807 < 18446744073709551616 by decide)
        have hU := Nat.lt_of_le_of_lt (show u.natAbs ≤ 9223372036854775807 by omega) (show 9223372036854775807 < 18446744073709551616 by decide)
        refine cs_same s t s2 t2 a b a2 b2 c d c2 d2 l k l2 m2 W hr hs hr2 hs2 x u Y V x.natAbs u.natAbs (x.natAbs * V / 18446744073709551616) (x.natAbs * V % 18446744073709551616) (u.natAbs * Y / 18446744073709551616) (u.natAbs * Y % 18446744073709551616) _ _ (((x.natAbs * V : Nat) : Int) - ((u.natAbs * Y : Nat) : Int)).sign _ (decide (x < 0)) rfl hq.symm hY1 hV1
          (fun W => (mag_any x W hx0 hx1).mono fun e w' h => ⟨h.1, h.2.symm⟩) (fun W => (mag_any u W hu0 hu1).mono fun e w' h => ⟨h.1, h.2.symm⟩)
          (fun W => Try.bits_Mul64 x.natAbs V hX (by omega) W) (fun W => Try.bits_Mul64 u.natAbs Y hU (by omega) W)
          (fun W => ccu_any _ _ W) (fun W => ccu_any _ _ W) ?_ (sign_wrap _) (sgn_same x u Y V hq) hA hB
        intro W p e0 e1
        rw [← lex_sign]
        exact or_any p _ _ W e0 e1
      · have hne : x.sign ≠ u.sign := by
          intro h
          apply hq
          by_cases hx9 : x < 0
          · rw [Int.sign_eq_neg_one_of_neg hx9] at h
            have := Int.sign_eq_neg_one_iff_neg.1 h.symm
            simp [hx9, this]
          · by_cases hu9 : u < 0
            · rw [Int.sign_eq_neg_one_of_neg hu9] at h
              exact absurd (Int.sign_eq_neg_one_iff_neg.1 h) hx9
            · simp [hx9, hu9]
        rw [← (sgn_of x u Y V (by omega) (by omega) hne).2 hq]
        exact cs_diff s t s2 t2 a b a2 b2 c d c2 d2 l k l2 m2 W hr hs hr2 hs2 x u Y V _ _ (by simpa using hq) rfl rfl hA hB
    · right
      intro W hr hs hr2 hs2
      exact cs_no2 s t s2 t2 a b a2 b2 c d c2 d2 l k l2 m2 W hr hs hr2 hs2 x Y 0 0 hA hB
  · right
    intro W hr hs hr2 hs2
    rcases lds_at s2 t2 l2 m2 (by omega) (by omega) with ⟨u, V, hu, hV, hV0, hV1, hu0, hu1, hB⟩ | hB
    · exact cs_no1 s t s2 t2 a b a2 b2 c d c2 d2 l k l2 m2 W hr hs hr2 hs2 0 0 u V true hA hB
    · exact cs_no1 s t s2 t2 a b a2 b2 c d c2 d2 l k l2 m2 W hr hs hr2 hs2 0 0 0 0 false hA hB
theorem frz_ex {w w' : World} {z : Int} {e : Ending} (h : FrZ w z e w') : ∃ (a : Option Addr) (c : Nat), e = .returned (.agg #[.bool (decide (z < 0)), .slice a (canon z.natAbs).length c]) ∧ (canon z.natAbs).length ≤ c ∧ RwF w.heap.size w' a (canon z.natAbs) ∧ Below w.heap.size w w' := by
  obtain ⟨a, c, h1, h2, h3⟩ := h
  exact ⟨a, c, h1, own_cap h2, RwF.of_own h2, h3⟩
theorem zv_can2 (z : Int) : zv (decide (z < 0)) (valD (canon z.natAbs)) = z := by rw [valD_canon, zv_of]
theorem canon_zmul (s t : Bool) (l k : List (BitVec 32)) (hl : l.length ≤ 100000) (hk : k.length ≤ 100000) : (canon (zv s (valD l) * zv t (valD k)).natAbs).length ≤ 400000 := by
  rw [canon_len_le, Int.natAbs_mul]
  have e1 : (zv s (valD l)).natAbs = valD l := by cases s <;> simp [zv]
  have e2 : (zv t (valD k)).natAbs = valD k := by cases t <;> simp [zv]
  rw [e1, e2]
  refine Nat.lt_of_lt_of_le (Nat.mul_lt_mul_of_lt_of_lt (valD_lt l) (valD_lt k)) ?_
  rw [← pw_add]
  exact pw_mono (by omega)
theorem canon_sgn (z : Int) : (canon z.sign.natAbs).length ≤ 400000 := by
  rw [canon_len_le]
  refine Nat.lt_of_lt_of_le (show z.sign.natAbs < pw 1 from ?_) (pw_mono (by omega))
  rcases Int.lt_trichotomy z 0 with h | h | h
  · rw [Int.sign_eq_neg_one_of_neg h]; decide
  · subst h; decide
  · rw [Int.sign_eq_one_of_pos h]; decide
theorem sgn_bd (z : Int) : -1 ≤ z.sign ∧ z.sign ≤ 1 := by
  rcases Int.lt_trichotomy z 0 with h | h | h
  · rw [Int.sign_eq_neg_one_of_neg h]; decide
  · subst h; decide
  · rw [Int.sign_eq_one_of_pos h]; decide
theorem frz_rw {f : FuncId} {args : Array Value} {W : World} {z : Int} (h : Calls Try.prog f args W (FrZ W z)) : Calls Try.prog f args W fun e w' => ∃ (a : Option Addr) (c : Nat), e = .returned (.agg #[.bool (decide (z < 0)), .slice a (canon z.natAbs).length c]) ∧ (canon z.natAbs).length ≤ c ∧ Rw w' a (canon z.natAbs) ∧ Below W.heap.size W w' :=
  h.mono fun e w' h => by
    obtain ⟨a, c, h1, h2, h3, h4⟩ := frz_ex h
    exact ⟨a, c, h1, h2, h3.1, h4⟩
theorem canon_neg_len (s : Bool) (l : List (BitVec 32)) : (canon (-(zv s (valD l))).natAbs).length ≤ l.length := by
  rw [canon_len_le]
  have e1 : (-(zv s (valD l))).natAbs = valD l := by cases s <;> simp [zv]
  rw [e1]
  exact valD_lt l
theorem pd_any (s t : Bool) (a b : Option Addr) (c d : Nat) (l k : List (BitVec 32)) (h1 : l.length ≤ 100000) (h2 : k.length ≤ 100000) (g1 : l.length ≤ c) (g2 : k.length ≤ d) :
    ∃ (S1 T1 : Bool) (L1 K1 : List (BitVec 32)), zv S1 (valD L1) = pN (zv s (valD l)) (zv t (valD k)) ∧ zv T1 (valD K1) = pD (zv t (valD k)) ∧ L1.length ≤ 100000 ∧ K1.length ≤ 100000 ∧
      ∀ W, Rw W a l → Rw W b k → Calls Try.prog 65 #[.agg #[.bool s, .slice a l.length c, .bool t, .slice b k.length d]] W fun e w' => ∃ (v1 : Option Addr) (n1 : Nat) (v2 : Option Addr) (n2 : Nat), e = .returned (.agg #[.bool S1, .slice v1 L1.length n1, .bool T1, .slice v2 K1.length n2]) ∧ L1.length ≤ n1 ∧ K1.length ≤ n2 ∧ Rw w' v1 L1 ∧ Rw w' v2 K1 ∧ Below W.heap.size W w' := by
  have hSg := fun W (h : Rw W b k) => zsign_any t b _ d k W rfl g2 (by omega) h
  rcases Int.lt_trichotomy (zv t (valD k)) 0 with hy | hy | hy
  · rw [Int.sign_eq_neg_one_of_neg hy] at hSg
    refine ⟨decide (-(zv s (valD l)) < 0), decide (-(zv t (valD k)) < 0), canon (-(zv s (valD l))).natAbs, canon (-(zv t (valD k))).natAbs, by rw [zv_can2]; unfold pN; rw [if_neg (by omega), if_pos hy], by rw [zv_can2]; unfold pD; rw [if_neg (by omega), if_pos hy], Nat.le_trans (canon_neg_len s l) h1, Nat.le_trans (canon_neg_len t k) h2, fun W hr hs => ?_⟩
    exact pd_neg s t a b c d l k W hr hs hSg _ _ _ _ (fun W h => (zneg_any s a _ c l W rfl g1 (by omega) h).mono fun e w' h => frz_ex h) (fun W h => (zneg_any t b _ d k W rfl g2 (by omega) h).mono fun e w' h => frz_ex h)
  · rw [hy, Int.sign_zero] at hSg
    refine ⟨false, false, canon (0 : Int).natAbs, canon (1 : Int).natAbs, by rw [show false = decide ((0 : Int) < 0) from rfl, zv_can2]; unfold pN; rw [if_pos hy], by rw [show false = decide ((1 : Int) < 0) from rfl, zv_can2]; unfold pD; rw [if_pos hy], ?_, ?_, fun W hr hs => ?_⟩
    · rw [canon_len_le]; exact Nat.lt_of_lt_of_le (show _ < pw 1 from by decide) (pw_mono (by omega))
    · rw [canon_len_le]; exact Nat.lt_of_lt_of_le (show _ < pw 1 from by decide) (pw_mono (by omega))
    · exact pd_zero s t a b c d l k W hr hs hSg _ _ (fun W => (fromI_any 0 W (by decide) (by decide)).mono fun e w' h => by
        obtain ⟨a, c, b, d, h1, ho1, ho2, _, hb⟩ := h
        exact ⟨a, c, b, d, h1, own_cap ho1, own_cap ho2, RwF.of_own ho1, RwF.of_own ho2, hb⟩)
  · rw [Int.sign_eq_one_of_pos hy] at hSg
    refine ⟨s, t, l, k, by unfold pN; rw [if_neg (by omega), if_neg (by omega)], by unfold pD; rw [if_neg (by omega), if_neg (by omega)], h1, h2, fun W hr hs => ?_⟩
    refine (pd_pos s t a b c d l k W hr hs hSg).mono ?_
    rintro e w' ⟨rfl, hb⟩
    exact ⟨a, c, b, d, rfl, g1, g2, hr.below hb, hs.below hb, hb⟩
theorem rtcmp_any (s t s2 t2 : Bool) (a b a2 b2 : Option Addr) (c d c2 d2 : Nat) (l k l2 m2 : List (BitVec 32)) (w : World) (h1 : l.length ≤ 100000) (h2 : k.length ≤ 100000) (h3 : l2.length ≤ 100000) (h4 : m2.length ≤ 100000)
    (g1 : l.length ≤ c) (g2 : k.length ≤ d) (g3 : l2.length ≤ c2) (g4 : m2.length ≤ d2) (hr : Rw w a l) (hs : Rw w b k) (hr2 : Rw w a2 l2) (hs2 : Rw w b2 m2) :
    Calls Try.prog 34 #[.agg #[.bool s, .slice a l.length c, .bool t, .slice b k.length d], .agg #[.bool s2, .slice a2 l2.length c2, .bool t2, .slice b2 m2.length d2]] w fun e w' => e = .returned (.int .i64 (pN (zv s (valD l)) (zv t (valD k)) * pD (zv t2 (valD m2)) - pN (zv s2 (valD l2)) (zv t2 (valD m2)) * pD (zv t (valD k))).sign) ∧ Below w.heap.size w w' := by
  rcases cs_any s t s2 t2 a b a2 b2 c d c2 d2 l k l2 m2 h1 h2 h3 h4 with hC | hC
  · exact rc_small s t s2 t2 a b a2 b2 c d c2 d2 l k l2 m2 w hr hs hr2 hs2 _ hC
  · obtain ⟨S1, T1, L1, K1, hx, hy, e1, e2, hD1⟩ := pd_any s t a b c d l k h1 h2 g1 g2
    obtain ⟨S2, T2, L2, K2, hu, hv, e3, e4, hD2⟩ := pd_any s2 t2 a2 b2 c2 d2 l2 m2 h3 h4 g3 g4
    have py : 0 < zv T1 (valD K1) := by rw [hy]; exact pD_pos _
    have pv : 0 < zv T2 (valD K2) := by rw [hv]; exact pD_pos _
    rw [← hx, ← hy, ← hu, ← hv]
    have hS1 := fun W (v : Option Addr) (n : Nat) (hn : L1.length ≤ n) (h : Rw W v L1) => zsign_any S1 v _ n L1 W rfl hn (by omega) h
    have hS2 := fun W (v : Option Addr) (n : Nat) (hn : L2.length ≤ n) (h : Rw W v L2) => zsign_any S2 v _ n L2 W rfl hn (by omega) h
    by_cases hpq : (zv S1 (valD L1)).sign = (zv S2 (valD L2)).sign
    · refine rc_cross s t s2 t2 a b a2 b2 c d c2 d2 l k l2 m2 w hr hs hr2 hs2 hC S1 T1 S2 T2 L1 K1 L2 K2 hD1 hD2 _ _ hS1 hS2 hpq (decide (zv S1 (valD L1) * zv T2 (valD K2) < 0)) (decide (zv S2 (valD L2) * zv T1 (valD K1) < 0)) (canon (zv S1 (valD L1) * zv T2 (valD K2)).natAbs) (canon (zv S2 (valD L2) * zv T1 (valD K1)).natAbs)
        (fun W v1 v2 u1 u2 n1 n2 n3 n4 q1 q4 r1 r4 => cr_any S1 T1 S2 T2 v1 v2 u1 u2 n1 n2 n3 n4 L1 K1 L2 K2 W r1 r4 _ _ (fun W h h' => (zmul_any S1 T2 v1 u2 _ n1 _ n4 L1 K2 W rfl rfl q1 q4 (by omega) (by omega) h h').mono fun e w' h => frz_ex h))
        (fun W v1 v2 u1 u2 n1 n2 n3 n4 q3 q2 r3 r2 => cr_any S2 T2 S1 T1 u1 u2 v1 v2 n3 n4 n1 n2 L2 K2 L1 K1 W r3 r2 _ _ (fun W h h' => (zmul_any S2 T1 u1 v2 _ n3 _ n2 L2 K1 W rfl rfl q3 q2 (by omega) (by omega) h h').mono fun e w' h => frz_ex h)) _ ?_
      intro W v1 v2 k1 k2 f1 f2 r1 r2
      have := zcmp_any (decide (zv S1 (valD L1) * zv T2 (valD K2) < 0)) (decide (zv S2 (valD L2) * zv T1 (valD K1) < 0)) v1 v2 _ k1 _ k2 _ _ W rfl rfl f1 f2 (canon_zmul S1 T2 L1 K2 e1 e4) (canon_zmul S2 T1 L2 K1 e3 e2) r1 r2
      rwa [zv_can2, zv_can2] at this
    · rw [← (sgn_of _ _ _ _ py pv hpq).1]
      have q1 := sgn_bd (zv S1 (valD L1))
      have q2 := sgn_bd (zv S2 (valD L2))
      refine rc_sign s t s2 t2 a b a2 b2 c d c2 d2 l k l2 m2 w hr hs hr2 hs2 hC S1 T1 S2 T2 L1 K1 L2 K2 hD1 hD2 _ _ hS1 hS2 (by simpa using hpq) _ _ _ _ (fun W => frz_rw (zfrom_any (zv S1 (valD L1)).sign (by omega) (by omega) W)) (fun W => frz_rw (zfrom_any (zv S2 (valD L2)).sign (by omega) (by omega) W)) _ ?_
      intro W v1 v2 k1 k2 f1 f2 r1 r2
      have := zcmp_any (decide ((zv S1 (valD L1)).sign < 0)) (decide ((zv S2 (valD L2)).sign < 0)) v1 v2 _ k1 _ k2 _ _ W rfl rfl f1 f2 (canon_sgn _) (canon_sgn _) r1 r2
      rwa [zv_can2, zv_can2] at this
end Go.Proofs.Ytcofiekfhnfjpaa
