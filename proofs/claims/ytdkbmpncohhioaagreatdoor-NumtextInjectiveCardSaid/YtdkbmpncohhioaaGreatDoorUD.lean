
import Derived.Test.YtdkbmpncohhioaaGreatDoorUC
import Derived.Laws.BitsAllLaws
import Derived.Deep.CutRange
import Derived.Test.YtdkbmpncohhioaaGreatDoorU9
import Derived.Test.YtdkbmpncohhioaaGreatDoorUA
import Derived.Test.YtdkbmpncohhioaaGreatDoorU6
import Derived.Laws.CopyOwn
import Derived.BigQuiet
import Derived.Deep.RegionHeld3
/- ZA -/
namespace Go.Proofs.YtdkbmpncohhioaaGreatDoor
open Go.RowKit
set_option linter.unusedVariables false
set_option linter.unusedSimpArgs false
attribute [local go_sem ↓] Go.wp_at_zero Go.wp_at_succ
theorem or_zero (x : BitVec 32) : bits .or .u64 0 (x.toNat : Int) = (x.toNat : Int) := by
  have := u64_or_nat 0 x.toNat (by omega) (by have := x.isLt; omega)
  rw [Nat.zero_or] at this
  exact this
theorem or_join (x y : BitVec 32) : bits .or .u64 (x.toNat : Int) ((y.toNat : Int) * 4294967296) = (x.toNat : Int) + (y.toNat : Int) * 4294967296 := by
  have hx := x.isLt
  have hy := y.isLt
  rw [show ((y.toNat : Int) * 4294967296) = ((y.toNat * 4294967296 : Nat) : Int) by omega, u64_or_nat _ _ (by omega) (by omega), Nat.or_comm, nat_join 32 _ _ (by omega) (by omega)]
  omega
/-- Does it fit into an int, and what is answered then. -/
def toB (z : Int) : Bool := decide (-9223372036854775808 ≤ z ∧ z ≤ 9223372036854775807)
def toV (z : Int) : Int := if -9223372036854775808 ≤ z ∧ z ≤ 9223372036854775807 then z else 0
theorem toV_in {z : Int} (h : -9223372036854775808 ≤ z) (h2 : z ≤ 9223372036854775807) : toV z = z ∧ toB z = true := by unfold toV toB; rw [if_pos ⟨h, h2⟩]; exact ⟨rfl, decide_eq_true ⟨h, h2⟩⟩
theorem toV_out {z : Int} (h : z < -9223372036854775808 ∨ 9223372036854775807 < z) : toV z = 0 ∧ toB z = false := by
  unfold toV toB
  rw [if_neg (by omega)]; exact ⟨rfl, decide_eq_false (by omega)⟩
theorem toV_neg {K : Nat} (h : K ≤ 9223372036854775808) : toV (zv true K) = -(K : Int) ∧ toB (zv true K) = true := by
  have e : zv true K = -(K : Int) := rfl
  rw [e]; exact toV_in (by omega) (by omega)
theorem toV_pos {K : Nat} (h : K < 9223372036854775808) : toV (zv false K) = (K : Int) ∧ toB (zv false K) = true := by
  have e : zv false K = (K : Int) := rfl
  rw [e]; exact toV_in (by omega) (by omega)
theorem toV_no {s : Bool} {K : Nat} (h : 9223372036854775808 < K ∨ s = false ∧ 9223372036854775808 ≤ K) : toV (zv s K) = 0 ∧ toB (zv s K) = false := by
  refine toV_out ?_
  cases s
  · have e : zv false K = (K : Int) := rfl
    rw [e]; simp at h; omega
  · have e : zv true K = -(K : Int) := rfl
    rw [e]; simp at h; omega
def TiRel (L : List (BitVec 32)) (u i : Value) : Prop := ∃ p : Nat, p ≤ L.length ∧ p ≤ 2 ∧ i = .int .i64 p ∧ ∃ x : Nat, u = .int .u64 x ∧ Hid (x = valD (L.take p))
set_option maxRecDepth 50000 in
set_option maxHeartbeats 1000000 in
theorem qtoint_any (s : Bool) (a : Option Addr) (n c : Nat) (l : List (BitVec 32)) (w : World) (hn : l.length = n) (hl : n ≤ 1000000) (hr : Rw w a l) :
    Calls Tryz.prog 24 #[.agg #[.bool s, .slice a n c]] w fun e w' => e = .returned (.tuple #[.int .i64 (toV (zv s (valD l))), .bool (toB (zv s (valD l)))]) ∧ Below w.heap.size w w' := by
  subst hn
  obtain ⟨z, hz⟩ : ∃ z, zv s (valD l) = z := ⟨_, rfl⟩
  have HZ := Lib.hid hz
  have fz : (canon z.natAbs).length ≤ 1000000 := by rw [← hz, zv_abs]; exact fit_abs hl
  rw [hz]
  clear hz
  obtain ⟨K, hK⟩ : ∃ K, z.natAbs = K := ⟨_, rfl⟩
  obtain ⟨σ, hσ⟩ : ∃ σ, decide (z < 0) = σ := ⟨_, rfl⟩
  have hzv : z = zv σ K := by rw [← hσ, ← hK]; exact (zv_of z).symm
  have HK := Lib.hid hK
  have Hσ := Lib.hid hσ
  obtain ⟨L, hL⟩ := ex_canon K
  have hv : Hid (valD L = K) := by show _ = _; rw [← hL.out, valD_canon]
  have hLt : Hid (trimD L = L) := by show _ = _; rw [← hL.out, trim_canon]
  rw [hK, hL.out] at fz
  clear hK hσ
  have HZV := Lib.hid hzv
  rw [hzv]
  clear hzv
  have hb1 := Below.alloc (Below.refl w.heap.size w) (Nat.le_refl _) (.cells #[Value.bool s, Value.slice a l.length c] 31)
  go_enter Tryz.func24, Tryz.ntmps24
  go_wp2_with (go_at_call 52; (with_reducible refine (qnew_any s a _ c l _ rfl hl (hr.below hb1)).mono ?_); rintro e w1 ⟨a1, c1, rfl, hr1, hc1⟩; have hbw1 := hb1.trans (hc1.mono hb1.size); have hz1 := hbw1.size; clear hc1 hb1; rw [HZ.out, HK.out, hL.out] at hr1; rw [HZ.out, HK.out, hL.out, Hσ.out])
  have hrW := hr1.1.below (Below.alloc (Below.refl w1.heap.size w1) (Nat.le_refl _) (.cells #[Value.bool σ, Value.slice a1 L.length c1] 31))
  have hbW := hbw1.alloc hz1 (.cells #[Value.bool σ, Value.slice a1 L.length c1] 31)
  clear hr1 hr
  go_loop [5, 6] (fun u i => TiRel L u i) (fun _ i => 2 - intOf i |>.toNat)
  case atStart => exact ⟨0, Nat.zero_le _, by omega, rfl, 0, rfl, by rw [List.take_zero]; exact rfl⟩
  case round =>
    obtain ⟨p, hp, hp2, rfl, x, rfl, hx⟩ := hrel
    by_cases hend : p = L.length
    · have hxK : Hid (x = K) := by show _ = _; rw [hx.out, hend, List.take_length]; exact hv.out
      have h1 : decide ((p : Int) < (L.length : Int)) = false := by rw [decide_eq_false_iff_not]; omega
      have h2 : decide (p < L.length) = false := by rw [decide_eq_false_iff_not]; omega
      have hxl : x < 18446744073709551616 := by
        have := valD_lt (L.take p)
        rw [← hx.out] at this
        refine Nat.lt_of_lt_of_le this (Nat.le_trans (pw_mono (show (L.take p).length ≤ 2 by rw [List.length_take]; omega)) (Nat.le_of_eq ?_))
        decide
      have HL := Lib.hid hend
      clear hend hp hp2
      cases σ
      · by_cases hb : x < 9223372036854775808
        · have hm := Lib.hid (toV_pos hb)
          have hw1 : IntKind.i64.wrap (x : Int) = x := by rw [IntKind.wrap_i64]; omega
          have hb' : decide ((x : Int) < 9223372036854775808) = true := by rw [decide_eq_true_iff]; omega
          clear hb hxl
          go_wp2
          go_ret2
          exact ⟨by rw [← hxK.out, hm.out.1, hm.out.2]; rfl, hbW⟩
        · have hm := Lib.hid (toV_no (s := false) (K := x) (.inr ⟨rfl, by omega⟩))
          have hb' : decide ((x : Int) < 9223372036854775808) = false := by rw [decide_eq_false_iff_not]; omega
          clear hb hxl
          go_wp2
          go_ret2
          exact ⟨by rw [← hxK.out, hm.out.1, hm.out.2]; rfl, hbW⟩
      · by_cases hb : x ≤ 9223372036854775808
        · have hm := Lib.hid (toV_neg hb)
          have hw1 : IntKind.i64.wrap (IntKind.u64.wrap (-(x : Int))) = -x := by rw [IntKind.wrap_u64, IntKind.wrap_i64]; omega
          have hb' : decide ((x : Int) ≤ 9223372036854775808) = true := by rw [decide_eq_true_iff]; omega
          clear hb hxl
          go_wp2
          go_ret2
          exact ⟨by rw [← hxK.out, hm.out.1, hm.out.2]; rfl, hbW⟩
        · have hm := Lib.hid (toV_no (s := true) (K := x) (.inl (by omega)))
          have hb' : decide ((x : Int) ≤ 9223372036854775808) = false := by rw [decide_eq_false_iff_not]; omega
          clear hb hxl
          go_wp2
          go_ret2
          exact ⟨by rw [← hxK.out, hm.out.1, hm.out.2]; rfl, hbW⟩
    · have hlt : p < L.length := by omega
      obtain ⟨ad, rfl, hc⟩ := hrW p hlt
      have hcase : p = 0 ∨ p = 1 ∨ p = 2 := by omega
      rcases hcase with rfl | rfl | rfl
      · have h1 : Hid (x = 0) := by show _ = _; rw [hx.out, List.take_zero]; rfl
        obtain ⟨y, hy⟩ : ∃ y, L[0] = y := ⟨_, rfl⟩
        rw [hy] at hc
        have HY : Hid (valD (L.take 1) = y.toNat) := by
          show _ = _
          rw [valD_take L 0 hlt, List.take_zero, hy, pw_zero, valD_nil]; omega
        have ho := or_zero y
        have hx0 : x = 0 := h1.out
        clear hy hx h1
        subst hx0
        simp [Addr.add] at hc
        go_wp2
        go_round
        case rel => exact ⟨1, by omega, by omega, rfl, y.toNat, rfl, HY.out.symm⟩
        case measure => simp [intOf]
      · have h0 : 0 < L.length := by omega
        obtain ⟨z, hz⟩ : ∃ z, L[0] = z := ⟨_, rfl⟩
        obtain ⟨y, hy⟩ : ∃ y, L[1] = y := ⟨_, rfl⟩
        rw [hy] at hc
        have hx1 : x = z.toNat := by
          rw [hx.out, valD_take L 0 h0, List.take_zero, hz, pw_zero, valD_nil]; omega
        have HY : Hid (valD (L.take 2) = z.toNat + y.toNat * 4294967296) := by
          show _ = _
          rw [valD_take L 1 hlt, ← hx.out, hx1, hy, show pw 1 = 4294967296 by decide]; omega
        have ho := or_join z y
        clear hy hz hx
        subst hx1
        simp [Addr.add] at hc
        go_wp2
        go_round
        case rel => exact ⟨2, by omega, by omega, rfl, z.toNat + y.toNat * 4294967296, by go_num, HY.out.symm⟩
        case measure => simp [intOf]
      · have h3 : 2 ^ 64 ≤ K := by
          have h4 := valD_len L hLt.out (by omega)
          rw [hv.out] at h4
          refine Nat.le_trans (Nat.le_trans (Nat.le_of_eq ?_) (pw_mono (show 2 ≤ L.length - 1 by omega))) h4
          decide
        have hm := Lib.hid (toV_no (s := σ) (K := K) (.inl (by omega)))
        clear h3
        go_wp2
        go_ret2
        exact ⟨by rw [hm.out.1, hm.out.2]; rfl, hbW⟩
end Go.Proofs.YtdkbmpncohhioaaGreatDoor

/- ZB -/
namespace Go.Proofs.YtdkbmpncohhioaaGreatDoor
open Go.RowKit
set_option linter.unusedVariables false
set_option linter.unusedSimpArgs false
attribute [local go_sem ↓] Go.wp_at_zero Go.wp_at_succ
theorem val_take2 {l : List (BitVec 32)} (h : valD l < 18446744073709551616) : valD (l.take (min l.length 2)) = valD l := by
  rcases Nat.lt_or_ge l.length 3 with h1 | h1
  · rw [List.take_of_length_le (by omega)]
  · rw [Nat.min_eq_right (by omega)]
    have e := valD_append (l.take 2) (l.drop 2)
    rw [List.take_append_drop, List.length_take, Nat.min_eq_left (by omega), show pw 2 = 18446744073709551616 by decide] at e
    rcases Nat.eq_zero_or_pos (valD (l.drop 2)) with h2 | h2
    · rw [e, h2]; omega
    · have : 18446744073709551616 * 1 ≤ 18446744073709551616 * valD (l.drop 2) := Nat.mul_le_mul_left _ h2
      omega
theorem bl_64 {K b : Nat} (h : IsBl K b) : (64 < b) ↔ 18446744073709551616 ≤ K := by
  obtain ⟨h1, h2, h3⟩ := h
  constructor
  · intro hb
    rcases Nat.eq_zero_or_pos K with h0 | h0
    · have := h2 h0; omega
    · refine Nat.le_trans ?_ (h3 h0).2
      exact Nat.pow_le_pow_right (n := 2) (by decide) (show 64 ≤ b - 1 by omega)
  · intro hK
    rcases Nat.lt_or_ge 64 b with h | h
    · exact h
    · have := Nat.pow_le_pow_right (n := 2) (by decide) h
      omega
theorem bl64_no {K b : Nat} (h : IsBl K b) (hk : K < 18446744073709551616) : decide ((64 : Int) < (b : Int)) = false ∧ decide (64 < b) = false := by
  have := (bl_64 h).1
  have h2 : ¬ 64 < b := fun e => by have := this e; omega
  exact ⟨decide_eq_false (by omega), decide_eq_false h2⟩
theorem bl64_yes {K b : Nat} (h : IsBl K b) (hk : 18446744073709551616 ≤ K) : decide ((64 : Int) < (b : Int)) = true ∧ decide (64 < b) = true := by
  have := (bl_64 h).2 hk
  exact ⟨decide_eq_true (by omega), decide_eq_true this⟩
theorem min2_if (n m : Nat) (h : min n 2 = m) : min (n : Int) 2 = (m : Int) ∧ (if (2 : Int) < (n : Int) then (2 : Int) else (n : Int)) = (m : Int) := by
  refine ⟨by omega, ?_⟩
  split <;> omega
def TzRel (L : List (BitVec 32)) (m : Nat) (u i : Value) : Prop := ∃ p : Nat, p ≤ m ∧ i = .int .i64 p ∧ ∃ x : Nat, u = .int .u64 x ∧ Hid (x = valD (L.take p))
set_option maxRecDepth 50000 in
set_option maxHeartbeats 1000000 in
theorem ztoint_any (s : Bool) (a : Option Addr) (n c : Nat) (l : List (BitVec 32)) (w : World) (hn : l.length = n) (hc : n ≤ c) (hl : n ≤ 1000000) (hr : Rw w a l) :
    Calls Tryz.prog 22 #[.agg #[.bool s, .slice a n c]] w fun e w' => e = .returned (.tuple #[.int .i64 (toV (zv s (valD l))), .bool (toB (zv s (valD l)))]) ∧ Below w.heap.size w w' := by
  subst hn
  obtain ⟨K, hK⟩ : ∃ K, valD l = K := ⟨_, rfl⟩
  have HK := Lib.hid hK
  rw [hK]
  obtain ⟨sx, hsx⟩ : ∃ v, (zv s K).sign = v := ⟨_, rfl⟩
  have Hsx := Lib.hid hsx
  have hb1 := Below.alloc (Below.refl w.heap.size w) (Nat.le_refl _) (.cells #[Value.bool s, Value.slice a l.length c] 31)
  have hz1 := hb1.size
  by_cases hbig : 18446744073709551616 ≤ K
  · have hm := Lib.hid (toV_no (s := s) (K := K) (.inl (by omega)))
    have HB := Lib.hid hbig
    clear hK hsx hbig
    go_enter Tryz.func22, Tryz.ntmps22
    go_wp2_with (first
      | (go_at_call 49; (with_reducible refine (zdec_any s a _ c l _ rfl hc (by omega) (hr.below hb1)).mono ?_); rintro e w1 ⟨a1, c1, l1, rfl, i1, j1, v1, hr1, hc1⟩; have hv1 := Lib.hid v1; clear v1; have hbw1 := hb1.trans (hc1.mono hz1); clear hc1; rw [HK.out, Hsx.out])
      | (go_at_call 50; (with_reducible refine (nbl_any a1 _ c1 l1 _ rfl i1 (by omega) hr1).mono ?_); rintro e w2 ⟨b, rfl, hbl, rfl⟩; rw [hv1.out, HK.out] at hbl; obtain ⟨h64, h64'⟩ := bl64_yes hbl HB.out; clear hbl))
    go_ret2
    exact ⟨by rw [hm.out.1, hm.out.2]; rfl, hbw1⟩
  · have HB : Hid (K < 18446744073709551616) := by show _ < _; omega
    obtain ⟨β, hβ⟩ : ∃ β, decide (sx < 0) = β := ⟨_, rfl⟩
    have hβ2 : decide (0 ≤ sx) = !β := by
      rw [← hβ]
      by_cases h : sx < 0
      · rw [decide_eq_true h, decide_eq_false (by omega)]; rfl
      · rw [decide_eq_false h, decide_eq_true (by omega)]; rfl
    have hzs : Hid (zv s K = zv β K) := by
      show _ = _
      rcases Nat.eq_zero_or_pos K with h0 | h0
      · rw [h0, zv_zero, zv_zero]
      · rw [← hβ, ← hsx, ← sgV_sign, sgV, if_neg (by omega)]; cases s <;> rfl
    rw [hzs.out]
    clear hK hsx hbig
    go_enter Tryz.func22, Tryz.ntmps22
    go_wp2_with (first
      | (go_at_call 49; (with_reducible refine (zdec_any s a _ c l _ rfl hc (by omega) (hr.below hb1)).mono ?_); rintro e w1 ⟨a1, c1, l1, rfl, i1, j1, v1, hr1, hc1⟩; have hv1 := Lib.hid v1; clear v1; have hbw1 := hb1.trans (hc1.mono hz1); clear hc1; rw [HK.out, Hsx.out])
      | (go_at_call 50; (with_reducible refine (nbl_any a1 _ c1 l1 _ rfl i1 (by omega) hr1).mono ?_); rintro e w2 ⟨b, rfl, hbl, rfl⟩; rw [hv1.out, HK.out] at hbl; obtain ⟨h64, h64'⟩ := bl64_no hbl HB.out; clear hbl; obtain ⟨m2, hm2⟩ : ∃ m2, min l1.length 2 = m2 := ⟨_, rfl⟩; obtain ⟨hm3, hm4⟩ := min2_if _ _ hm2; have HM := Lib.hid hm2; have hmc : m2 ≤ c1 := by omega))
    have hm2' : m2 = min l1.length 2 := HM.out.symm
    go_loop [6, 7, 8, 23] (fun u _ _ i => TzRel l1 m2 u i) (fun _ _ _ i => 2 - intOf i |>.toNat)
    case atStart => exact ⟨0, Nat.zero_le _, rfl, 0, rfl, by rw [List.take_zero]; exact rfl⟩
    case round =>
      obtain ⟨p, hp, rfl, x, rfl, hx⟩ := hrel
      by_cases hend : p = m2
      · have hxK : Hid (x = K) := by
          show _ = _
          rw [hx.out, hend, hm2', val_take2 (by rw [hv1.out, HK.out]; exact HB.out), hv1.out, HK.out]
        have h1 : decide ((p : Int) < (m2 : Int)) = false := by rw [decide_eq_false_iff_not]; omega
        have h2 : decide (p < m2) = false := by rw [decide_eq_false_iff_not]; omega
        have hxl : x < 18446744073709551616 := by rw [hxK.out]; exact HB.out
        clear hend hp hm2'
        cases β
        · by_cases hb : x < 9223372036854775808
          · have hm := Lib.hid (toV_pos hb)
            have hw1 : IntKind.i64.wrap (x : Int) = x := by rw [IntKind.wrap_i64]; omega
            have hb' : decide ((x : Int) ≤ 9223372036854775807) = true := by rw [decide_eq_true_iff]; omega
            clear hb hxl
            go_wp2
            go_ret2
            exact ⟨by rw [← hxK.out, hm.out.1, hm.out.2]; rfl, hbw1⟩
          · have hm := Lib.hid (toV_no (s := false) (K := x) (.inr ⟨rfl, by omega⟩))
            have hb' : decide ((x : Int) ≤ 9223372036854775807) = false := by rw [decide_eq_false_iff_not]; omega
            clear hb hxl
            go_wp2
            go_ret2
            exact ⟨by rw [← hxK.out, hm.out.1, hm.out.2]; rfl, hbw1⟩
        · by_cases hb : x ≤ 9223372036854775808
          · have hm := Lib.hid (toV_neg hb)
            have hw1 : IntKind.i64.wrap (IntKind.u64.wrap (-(x : Int))) = -x := by rw [IntKind.wrap_u64, IntKind.wrap_i64]; omega
            have hb' : decide ((x : Int) ≤ 9223372036854775808) = true := by rw [decide_eq_true_iff]; omega
            clear hb hxl
            go_wp2
            go_ret2
            exact ⟨by rw [← hxK.out, hm.out.1, hm.out.2]; rfl, hbw1⟩
          · have hm := Lib.hid (toV_no (s := true) (K := x) (.inl (by omega)))
            have hb' : decide ((x : Int) ≤ 9223372036854775808) = false := by rw [decide_eq_false_iff_not]; omega
            clear hb hxl
            go_wp2
            go_ret2
            exact ⟨by rw [← hxK.out, hm.out.1, hm.out.2]; rfl, hbw1⟩
      · have hlt : p < l1.length := by omega
        obtain ⟨ad, rfl, hcl⟩ := hr1 p hlt
        have hcase : p = 0 ∨ p = 1 := by omega
        rcases hcase with rfl | rfl
        · have h1 : Hid (x = 0) := by show _ = _; rw [hx.out, List.take_zero]; rfl
          obtain ⟨y, hy⟩ : ∃ y, l1[0] = y := ⟨_, rfl⟩
          rw [hy] at hcl
          have HY : Hid (valD (l1.take 1) = y.toNat) := by
            show _ = _
            rw [valD_take l1 0 hlt, List.take_zero, hy, pw_zero, valD_nil]; omega
          have ho := or_zero y
          have hx0 : x = 0 := h1.out
          have hm1 : decide ((0 : Int) < (m2 : Int)) = true := by rw [decide_eq_true_iff]; omega
          have hm1' : decide (0 < m2) = true := by rw [decide_eq_true_iff]; omega
          have hm1n : 1 ≤ m2 := by omega
          clear hy hx h1 hm2' hend
          subst hx0
          simp [Addr.add] at hcl
          go_wp2
          go_round
          case rel => exact ⟨1, hm1n, rfl, y.toNat, rfl, HY.out.symm⟩
          case measure => simp [intOf]
        · have h0 : 0 < l1.length := by omega
          obtain ⟨z, hz⟩ : ∃ z, l1[0] = z := ⟨_, rfl⟩
          obtain ⟨y, hy⟩ : ∃ y, l1[1] = y := ⟨_, rfl⟩
          rw [hy] at hcl
          have hx1 : x = z.toNat := by
            rw [hx.out, valD_take l1 0 h0, List.take_zero, hz, pw_zero, valD_nil]; omega
          have HY : Hid (valD (l1.take 2) = z.toNat + y.toNat * 4294967296) := by
            show _ = _
            rw [valD_take l1 1 hlt, ← hx.out, hx1, hy, show pw 1 = 4294967296 by decide]; omega
          have ho := or_join z y
          have hm1n : m2 = 2 := by omega
          clear hy hz hx hm2' hend
          subst hx1 hm1n
          simp [Addr.add] at hcl
          go_wp2
          go_round
          case rel => exact ⟨2, by omega, rfl, z.toNat + y.toNat * 4294967296, by go_num, HY.out.symm⟩
          case measure => simp [intOf]
end Go.Proofs.YtdkbmpncohhioaaGreatDoor

/- ZC -/
namespace Go.Proofs.YtdkbmpncohhioaaGreatDoor
open Go.RowKit
set_option linter.unusedVariables false
set_option linter.unusedSimpArgs false
attribute [local go_sem ↓] Go.wp_at_zero Go.wp_at_succ
/-- The decimal text of an integer. -/
def zfmt (z : Int) : List UInt8 := if z < 0 then 45 :: Lib.decDigits z.natAbs else Lib.decDigits z.natAbs
theorem pw_ten (n : Nat) : pw n ≤ 10 ^ (10 * n) := by
  induction n with
  | zero => rw [pw_zero]; exact Nat.le_refl _
  | succ n ih =>
    rw [pw_succ, show 10 * (n + 1) = 10 * n + 10 by omega, Nat.pow_add]
    exact Nat.mul_le_mul ih (by decide)
theorem dec_fit (l : List (BitVec 32)) (n : Nat) (h : l.length ≤ n) : (Lib.decDigits (valD l)).length ≤ 10 * n + 1 := by
  refine dec_len_le _ _ (Nat.lt_of_lt_of_le (valD_lt l) (Nat.le_trans (pw_ten _) (Nat.pow_le_pow_right (by decide) (by omega)))) (by omega)
theorem zfmt_neg {z : Int} (h : z < 0) : zfmt z = 45 :: Lib.decDigits z.natAbs := by unfold zfmt; rw [if_pos h]
theorem zfmt_pos {z : Int} (h : ¬ z < 0) : zfmt z = Lib.decDigits z.natAbs := by unfold zfmt; rw [if_neg h]
theorem zfmt_any (s : Bool) (a : Option Addr) (n c : Nat) (l : List (BitVec 32)) (w : World) (hn : l.length = n) (hc : n ≤ c) (hl : n ≤ 90000) (hr : Rw w a l) (hT : Tb w) :
    Calls Tryz.prog 25 #[.agg #[.bool s, .slice a n c]] w fun e w' => e = .returned (sv (zfmt (zv s (valD l)))) ∧ Below w.heap.size w w' := by
  subst hn
  obtain ⟨z, hz⟩ : ∃ z, zv s (valD l) = z := ⟨_, rfl⟩
  have HZ := Lib.hid hz
  have HA : Hid (valD l = z.natAbs) := by show _ = _; rw [← hz, zv_abs]
  have hfit := dec_fit l 90000 hl
  rw [HA.out] at hfit
  rw [hz]
  obtain ⟨D, hD⟩ : ∃ D : ByteArray, (⟨(Lib.decDigits z.natAbs).toArray⟩ : ByteArray) = D := ⟨_, rfl⟩
  have HD := Lib.hid hD
  have hsz : D.size ≤ 900001 := by rw [← hD]; show (Lib.decDigits z.natAbs).toArray.size ≤ _; simpa using hfit
  obtain ⟨n1, hn1⟩ : ∃ n, D.size = n := ⟨_, rfl⟩
  rw [hn1] at hsz
  obtain ⟨sx, hsx⟩ : ∃ v, z.sign = v := ⟨_, rfl⟩
  have Hsx := Lib.hid hsx
  have hneg : decide (sx < 0) = decide (z < 0) := by
    rw [← hsx, sign_ite, Bool.eq_iff_iff, decide_eq_true_iff, decide_eq_true_iff]
    split
    · omega
    · split <;> omega
  have HSV : Hid (sgV s (valD l) = sx) := by show _ = _; rw [sgV_sign, hz]; exact hsx
  have hb1 := Below.alloc (Below.refl w.heap.size w) (Nat.le_refl _) (.cells #[Value.bool s, Value.slice a l.length c] 31)
  have hz1 := hb1.size
  by_cases h : z < 0
  · have HV := Lib.hid (zfmt_neg h)
    rw [decide_eq_true h] at hneg
    clear h hz hD hsx hfit
    go_enter Tryz.func25, Tryz.ntmps25
    go_wp2_with (first | (go_at_call 49; (with_reducible refine (zdec_any s a _ c l _ rfl hc (by omega) (hr.below hb1)).mono ?_); rintro e w1 ⟨a1, c1, l1, rfl, i1, j1, v1, hr1, hc1⟩; have hv1 := Lib.hid v1; clear v1; have hT1 := (hT.below hb1).below hc1; have hbw1 := hb1.trans (hc1.mono hz1); have hz2 := hbw1.size; clear hc1; rw [HZ.out, Hsx.out]) | (go_at_call 53; (with_reducible refine (nformat_any a1 _ c1 l1 _ rfl i1 (by omega) hr1 hT1).mono ?_); rintro e w2 ⟨rfl, hc2⟩; have hbw2 := hbw1.trans (hc2.mono hz2); clear hc2; rw [hv1.out, HA.out]; unfold sv; rw [HD.out]))
    go_ret
    exact ⟨by rw [HV.out, ← HD.out]; rfl, hbw2⟩
  · have HV := Lib.hid (zfmt_pos h)
    rw [decide_eq_false h] at hneg
    clear h hz hD hsx hfit
    go_enter Tryz.func25, Tryz.ntmps25
    go_wp2_with (first | (go_at_call 49; (with_reducible refine (zdec_any s a _ c l _ rfl hc (by omega) (hr.below hb1)).mono ?_); rintro e w1 ⟨a1, c1, l1, rfl, i1, j1, v1, hr1, hc1⟩; have hv1 := Lib.hid v1; clear v1; have hT1 := (hT.below hb1).below hc1; have hbw1 := hb1.trans (hc1.mono hz1); have hz2 := hbw1.size; clear hc1; rw [HZ.out, Hsx.out]) | (go_at_call 53; (with_reducible refine (nformat_any a1 _ c1 l1 _ rfl i1 (by omega) hr1 hT1).mono ?_); rintro e w2 ⟨rfl, hc2⟩; have hbw2 := hbw1.trans (hc2.mono hz2); clear hc2; rw [hv1.out, HA.out]; unfold sv; rw [HD.out]))
    go_ret
    exact ⟨by rw [HV.out, ← HD.out]; rfl, hbw2⟩
theorem qfmt_any (s : Bool) (a : Option Addr) (n c : Nat) (l : List (BitVec 32)) (w : World) (hn : l.length = n) (hl : n ≤ 90000) (hr : Rw w a l) :
    Calls Tryz.prog 27 #[.agg #[.bool s, .slice a n c]] w fun e w' => e = .returned (sv (zfmt (zv s (valD l)))) ∧ Below w.heap.size w w' := by
  subst hn
  obtain ⟨z, hz⟩ : ∃ z, zv s (valD l) = z := ⟨_, rfl⟩
  have HZ := Lib.hid hz
  have HA : Hid (valD l = z.natAbs) := by show _ = _; rw [← hz, zv_abs]
  have hfit := dec_fit l 90000 hl
  rw [HA.out] at hfit
  rw [hz]
  obtain ⟨D, hD⟩ : ∃ D : ByteArray, (⟨(Lib.decDigits z.natAbs).toArray⟩ : ByteArray) = D := ⟨_, rfl⟩
  have HD := Lib.hid hD
  have hsz : D.size ≤ 900001 := by rw [← hD]; show (Lib.decDigits z.natAbs).toArray.size ≤ _; simpa using hfit
  obtain ⟨n1, hn1⟩ : ∃ n, D.size = n := ⟨_, rfl⟩
  rw [hn1] at hsz
  obtain ⟨sx, hsx⟩ : ∃ v, z.sign = v := ⟨_, rfl⟩
  have Hsx := Lib.hid hsx
  have hneg : decide (sx < 0) = decide (z < 0) := by
    rw [← hsx, sign_ite, Bool.eq_iff_iff, decide_eq_true_iff, decide_eq_true_iff]
    split
    · omega
    · split <;> omega
  have HSV : Hid (sgV s (valD l) = sx) := by show _ = _; rw [sgV_sign, hz]; exact hsx
  have hb1 := Below.alloc (Below.refl w.heap.size w) (Nat.le_refl _) (.cells #[Value.bool s, Value.slice a l.length c] 31)
  have hz1 := hb1.size
  by_cases h : z < 0
  · have HV := Lib.hid (zfmt_neg h)
    rw [decide_eq_true h] at hneg
    clear h hz hD hsx hfit
    go_enter Tryz.func27, Tryz.ntmps27
    go_wp2_with (first | (go_at_call 55; (with_reducible refine (rformat_any a _ c l _ rfl hl (hr.below hb1)).mono ?_); rintro e w1 ⟨rfl, hc1⟩; have k1_p_0 : w1.cell? ⟨w.heap.size, 0, none⟩ = some (.bool s) := bcs hc1 (by first | with_reducible assumption | go_simp); have g1_p_0 : w1.frozen? ⟨w.heap.size, 0, none⟩ = false := bfs hc1 (v := .bool s) (by first | with_reducible assumption | go_simp) (by first | with_reducible assumption | go_simp); have k1_p_1 : w1.cell? ⟨w.heap.size, 1, none⟩ = some (.slice a l.length c) := bcs hc1 (by first | with_reducible assumption | go_simp); have g1_p_1 : w1.frozen? ⟨w.heap.size, 1, none⟩ = false := bfs hc1 (v := .slice a l.length c) (by first | with_reducible assumption | go_simp) (by first | with_reducible assumption | go_simp); have x1_p : ¬ w.heap.size = w1.heap.size := qne k1_p_0; have y1_p : ¬ w1.heap.size = w.heap.size := fun h => qne k1_p_0 h.symm; have q1_p : w.heap.size < w1.heap.size := qlt k1_p_0; have hbw1 := hb1.trans (hc1.mono hz1); have hz2 := hbw1.size; clear hc1; rw [HA.out]; unfold sv; rw [HD.out]) | (go_at_call 56; (with_reducible refine (isign_any s a _ c l _ rfl (by omega) (hr.below hbw1)).mono ?_); rintro e w2 ⟨rfl, hc2⟩; have hbw2 := hbw1.trans (hc2.mono hz2); clear hc2; rw [HSV.out]))
    go_ret
    exact ⟨by rw [HV.out, ← HD.out]; rfl, hbw2⟩
  · have HV := Lib.hid (zfmt_pos h)
    rw [decide_eq_false h] at hneg
    clear h hz hD hsx hfit
    go_enter Tryz.func27, Tryz.ntmps27
    go_wp2_with (first | (go_at_call 55; (with_reducible refine (rformat_any a _ c l _ rfl hl (hr.below hb1)).mono ?_); rintro e w1 ⟨rfl, hc1⟩; have k1_p_0 : w1.cell? ⟨w.heap.size, 0, none⟩ = some (.bool s) := bcs hc1 (by first | with_reducible assumption | go_simp); have g1_p_0 : w1.frozen? ⟨w.heap.size, 0, none⟩ = false := bfs hc1 (v := .bool s) (by first | with_reducible assumption | go_simp) (by first | with_reducible assumption | go_simp); have k1_p_1 : w1.cell? ⟨w.heap.size, 1, none⟩ = some (.slice a l.length c) := bcs hc1 (by first | with_reducible assumption | go_simp); have g1_p_1 : w1.frozen? ⟨w.heap.size, 1, none⟩ = false := bfs hc1 (v := .slice a l.length c) (by first | with_reducible assumption | go_simp) (by first | with_reducible assumption | go_simp); have x1_p : ¬ w.heap.size = w1.heap.size := qne k1_p_0; have y1_p : ¬ w1.heap.size = w.heap.size := fun h => qne k1_p_0 h.symm; have q1_p : w.heap.size < w1.heap.size := qlt k1_p_0; have hbw1 := hb1.trans (hc1.mono hz1); have hz2 := hbw1.size; clear hc1; rw [HA.out]; unfold sv; rw [HD.out]) | (go_at_call 56; (with_reducible refine (isign_any s a _ c l _ rfl (by omega) (hr.below hbw1)).mono ?_); rintro e w2 ⟨rfl, hc2⟩; have hbw2 := hbw1.trans (hc2.mono hz2); clear hc2; rw [HSV.out]))
    go_ret
    exact ⟨by rw [HV.out, ← HD.out]; rfl, hbw2⟩
end Go.Proofs.YtdkbmpncohhioaaGreatDoor

/- ZD -/
namespace Go.Proofs.YtdkbmpncohhioaaGreatDoor
open Go.RowKit
set_option linter.unusedVariables false
set_option linter.unusedSimpArgs false
attribute [local go_sem ↓] Go.wp_at_zero Go.wp_at_succ
def pneg (l : List UInt8) : Bool := decide (l.head? = some 45)
def pdig (l : List UInt8) : List UInt8 := if pneg l then l.drop 1 else l
theorem pre_neg (l : List UInt8) : Lib.hasPrefix l [45] = pneg l := by
  cases l with
  | nil => rfl
  | cons c t => simp [Lib.hasPrefix, pneg, List.isPrefixOf]; rw [Bool.eq_iff_iff]; simp; exact eq_comm
theorem pre_dig (l : List UInt8) : Lib.trimPrefix l [45] = pdig l := by
  unfold Lib.trimPrefix pdig
  rw [pre_neg]; rfl
/-- What a parser answers that refuses. -/
def errV (e : Int) : Value := .tuple #[.agg #[.bool false, .slice none 0 0], .int .i64 e]
/-- What a parser answers that reads an integer. -/
def okV (z : Int) (a : Option Addr) (c : Nat) : Value := .tuple #[.agg #[.bool (decide (z < 0)), .slice a (canon z.natAbs).length c], .int .i64 0]
theorem zv_sign_ok {ν : Bool} {V : Nat} (h : ¬ (ν = true ∧ V = 0)) : decide (zv ν V < 0) = ν := by
  rw [zv_neg]
  cases ν
  · rfl
  · have : 0 < V := by
      rcases Nat.eq_zero_or_pos V with h0 | h0
      · exact absurd ⟨rfl, h0⟩ h
      · exact h0
    simp [this]
theorem zparse_bad (S : ByteArray) (l : List UInt8) (w : World) (hS : S.data.toList = l) (hl : l.length ≤ 1000000) (hb : isDec (pdig l) = false) :
    Calls Tryz.prog 21 #[.string S] w fun e w' => e = .returned (errV 3) ∧ Below w.heap.size w w' := by
  have hsz := str_size hS
  obtain ⟨ν, hν⟩ : ∃ b, pneg l = b := ⟨_, rfl⟩
  obtain ⟨d, hd⟩ : ∃ d, pdig l = d := ⟨_, rfl⟩
  have hdl : d.length ≤ 1000000 := by
    rw [← hd]; unfold pdig; split
    · rw [List.length_drop]; omega
    · exact hl
  rw [hd] at hb
  have HB := Lib.hid hb
  obtain ⟨D, hD⟩ : ∃ D : ByteArray, (⟨(Lib.trimPrefix S.data.toList (⟨#[45]⟩ : ByteArray).data.toList).toArray⟩ : ByteArray) = D := ⟨_, rfl⟩
  have HD := Lib.hid hD
  have HDl : Hid (D.data.toList = d) := by show _ = _; rw [← hD, hS]; show (Lib.trimPrefix l [45]) = d; rw [pre_dig, hd]
  have HP : Hid (Lib.hasPrefix S.data.toList (⟨#[45]⟩ : ByteArray).data.toList = ν) := by show _ = _; rw [hS]; show Lib.hasPrefix l [45] = ν; rw [pre_neg, hν]
  have hb0 := Below.alloc (Below.refl w.heap.size w) (Nat.le_refl _) (.cells #[Value.bool false, Value.slice none 0 0] 31)
  have hz0 := hb0.size
  clear hb hν hd hD hl
  go_enter Tryz.func21, Tryz.ntmps21
  go_wp2_with (first | (go_at_call 47; (with_reducible refine (Tryz.strings_CutPrefix S ⟨#[45]⟩ _).mono ?_); rintro e w1 ⟨rfl, rfl⟩; rw [HD.out, HP.out]) | (go_at_call 48; (with_reducible refine (nparse_bad D d _ HDl.out hdl HB.out).mono ?_); rintro e w2 ⟨rfl, rfl⟩))
  refine bodyPost_ret (v := .tuple #[.agg #[.bool false, .slice none 0 0], .int .i64 3]) (by simp [results, Tryz.results21, go_sem, *]) rfl ?_
  exact ⟨rfl, by first | exact hb0 | exact (hb0.setCell (by simp) _).setCell (by simp) _⟩
theorem zparse_long (S : ByteArray) (l : List UInt8) (w : World) (hS : S.data.toList = l) (hl : l.length ≤ 1000000) (hb : isDec (pdig l) = true) (h2 : 1000 < (pdig l).length) :
    Calls Tryz.prog 21 #[.string S] w fun e w' => e = .returned (errV 5) ∧ Below w.heap.size w w' := by
  have hsz := str_size hS
  obtain ⟨ν, hν⟩ : ∃ b, pneg l = b := ⟨_, rfl⟩
  obtain ⟨d, hd⟩ : ∃ d, pdig l = d := ⟨_, rfl⟩
  have hdl : d.length ≤ 1000000 := by
    rw [← hd]; unfold pdig; split
    · rw [List.length_drop]; omega
    · exact hl
  rw [hd] at hb h2
  have HB := Lib.hid hb
  have H2 := Lib.hid h2
  obtain ⟨D, hD⟩ : ∃ D : ByteArray, (⟨(Lib.trimPrefix S.data.toList (⟨#[45]⟩ : ByteArray).data.toList).toArray⟩ : ByteArray) = D := ⟨_, rfl⟩
  have HD := Lib.hid hD
  have HDl : Hid (D.data.toList = d) := by show _ = _; rw [← hD, hS]; show (Lib.trimPrefix l [45]) = d; rw [pre_dig, hd]
  have HP : Hid (Lib.hasPrefix S.data.toList (⟨#[45]⟩ : ByteArray).data.toList = ν) := by show _ = _; rw [hS]; show Lib.hasPrefix l [45] = ν; rw [pre_neg, hν]
  have hb0 := Below.alloc (Below.refl w.heap.size w) (Nat.le_refl _) (.cells #[Value.bool false, Value.slice none 0 0] 31)
  have hz0 := hb0.size
  clear hb hν hd hD hl
  go_enter Tryz.func21, Tryz.ntmps21
  go_wp2_with (first | (go_at_call 47; (with_reducible refine (Tryz.strings_CutPrefix S ⟨#[45]⟩ _).mono ?_); rintro e w1 ⟨rfl, rfl⟩; rw [HD.out, HP.out]) | (go_at_call 48; (with_reducible refine (nparse_long D d _ HDl.out hdl HB.out H2.out).mono ?_); rintro e w2 ⟨rfl, rfl⟩))
  refine bodyPost_ret (v := .tuple #[.agg #[.bool false, .slice none 0 0], .int .i64 5]) (by simp [results, Tryz.results21, go_sem, *]) rfl ?_
  exact ⟨rfl, by first | exact hb0 | exact (hb0.setCell (by simp) _).setCell (by simp) _⟩
theorem zparse_zero (S : ByteArray) (l : List UInt8) (w : World) (hS : S.data.toList = l) (hb : isDec (pdig l) = true) (h2 : (pdig l).length ≤ 1000) (hv : pneg l = true ∧ dv (pdig l) = 0) :
    Calls Tryz.prog 21 #[.string S] w fun e w' => e = .returned (errV 3) ∧ Below w.heap.size w w' := by
  have hsz := str_size hS
  obtain ⟨ν, hν⟩ : ∃ b, pneg l = b := ⟨_, rfl⟩
  obtain ⟨d, hd⟩ : ∃ d, pdig l = d := ⟨_, rfl⟩
  rw [hν, hd] at hv
  rw [hd] at hb h2
  have HB := Lib.hid hb
  have H2 := Lib.hid h2
  obtain ⟨D, hD⟩ : ∃ D : ByteArray, (⟨(Lib.trimPrefix S.data.toList (⟨#[45]⟩ : ByteArray).data.toList).toArray⟩ : ByteArray) = D := ⟨_, rfl⟩
  have HD := Lib.hid hD
  have HDl : Hid (D.data.toList = d) := by show _ = _; rw [← hD, hS]; show (Lib.trimPrefix l [45]) = d; rw [pre_dig, hd]
  have HP : Hid (Lib.hasPrefix S.data.toList (⟨#[45]⟩ : ByteArray).data.toList = ν) := by show _ = _; rw [hS]; show Lib.hasPrefix l [45] = ν; rw [pre_neg, hν]
  have hb0 := Below.alloc (Below.refl w.heap.size w) (Nat.le_refl _) (.cells #[Value.bool false, Value.slice none 0 0] 31)
  have hz0 := hb0.size
  obtain ⟨V, hV⟩ : ∃ V, dv d = V := ⟨_, rfl⟩
  obtain ⟨T, hT⟩ := ex_canon V
  have HT : Hid (canon (dv d) = T) := by show _ = _; rw [hV]; exact hT.out
  obtain ⟨rfl, hv0⟩ := hv
  have hTl : T.length = 0 := by rw [← hT.out, ← hV, hv0, canon_zero]; rfl
  have hTb : ((T.length : Int) == 0) = true := by rw [hTl]; rfl
  have hTb2 : (T.length == 0) = true := by rw [hTl]; rfl
  clear hb hν hd hD hV hv0
  go_enter Tryz.func21, Tryz.ntmps21
  go_wp2_with (first | (go_at_call 47; (with_reducible refine (Tryz.strings_CutPrefix S ⟨#[45]⟩ _).mono ?_); rintro e w1 ⟨rfl, rfl⟩; rw [HD.out, HP.out]) | (go_at_call 48; (with_reducible refine (nparse_ok D d _ HDl.out HB.out H2.out).mono ?_); rintro e w2 ⟨a2, c2, rfl, hca, hra, hc2⟩; have k2_r_0 : w2.cell? ⟨w.heap.size, 0, none⟩ = some (.bool false) := bcs hc2 (by first | with_reducible assumption | go_simp); have g2_r_0 : w2.frozen? ⟨w.heap.size, 0, none⟩ = false := bfs hc2 (v := .bool false) (by first | with_reducible assumption | go_simp) (by first | with_reducible assumption | go_simp); have k2_r_1 : w2.cell? ⟨w.heap.size, 1, none⟩ = some (.slice none 0 0) := bcs hc2 (by first | with_reducible assumption | go_simp); have g2_r_1 : w2.frozen? ⟨w.heap.size, 1, none⟩ = false := bfs hc2 (v := .slice none 0 0) (by first | with_reducible assumption | go_simp) (by first | with_reducible assumption | go_simp); have x2_r : ¬ w.heap.size = w2.heap.size := qne k2_r_0; have y2_r : ¬ w2.heap.size = w.heap.size := fun h => qne k2_r_0 h.symm; have q2_r : w.heap.size < w2.heap.size := qlt k2_r_0; have hbw := hb0.trans (hc2.mono hz0); clear hc2; rw [HT.out] at hca hra; rw [HT.out]))
  refine bodyPost_ret (v := .tuple #[.agg #[.bool false, .slice none 0 0], .int .i64 3]) (by simp [results, Tryz.results21, go_sem, *]) rfl ?_
  exact ⟨rfl, by first | exact hbw | exact ((hbw.setCell (by simp) _).setCell (by simp) _)⟩
theorem zparse_ok (S : ByteArray) (l : List UInt8) (w : World) (hS : S.data.toList = l) (hb : isDec (pdig l) = true) (h2 : (pdig l).length ≤ 1000) (hv : ¬ (pneg l = true ∧ dv (pdig l) = 0)) :
    Calls Tryz.prog 21 #[.string S] w fun e w' => ∃ a c, e = .returned (okV (zv (pneg l) (dv (pdig l))) a c) ∧ (canon (zv (pneg l) (dv (pdig l))).natAbs).length ≤ c ∧ RwF w.heap.size w' a (canon (zv (pneg l) (dv (pdig l))).natAbs) ∧ Below w.heap.size w w' := by
  have hsz := str_size hS
  obtain ⟨ν, hν⟩ : ∃ b, pneg l = b := ⟨_, rfl⟩
  obtain ⟨d, hd⟩ : ∃ d, pdig l = d := ⟨_, rfl⟩
  rw [hν, hd] at hv
  rw [hd] at hb h2
  have HB := Lib.hid hb
  have H2 := Lib.hid h2
  obtain ⟨D, hD⟩ : ∃ D : ByteArray, (⟨(Lib.trimPrefix S.data.toList (⟨#[45]⟩ : ByteArray).data.toList).toArray⟩ : ByteArray) = D := ⟨_, rfl⟩
  have HD := Lib.hid hD
  have HDl : Hid (D.data.toList = d) := by show _ = _; rw [← hD, hS]; show (Lib.trimPrefix l [45]) = d; rw [pre_dig, hd]
  have HP : Hid (Lib.hasPrefix S.data.toList (⟨#[45]⟩ : ByteArray).data.toList = ν) := by show _ = _; rw [hS]; show Lib.hasPrefix l [45] = ν; rw [pre_neg, hν]
  have hb0 := Below.alloc (Below.refl w.heap.size w) (Nat.le_refl _) (.cells #[Value.bool false, Value.slice none 0 0] 31)
  have hz0 := hb0.size
  obtain ⟨V, hV⟩ : ∃ V, dv d = V := ⟨_, rfl⟩
  obtain ⟨T, hT⟩ := ex_canon V
  have HT : Hid (canon (dv d) = T) := by show _ = _; rw [hV]; exact hT.out
  have hsg := Lib.hid (zv_sign_ok (ν := ν) (V := V) (by rw [← hV]; exact hv))
  have hab := Lib.hid (zv_abs ν V)
  rw [hν, hd, hV]
  have hTb : (ν = false) ∨ (ν = true ∧ ((T.length : Int) == 0) = false ∧ (T.length == 0) = false) := by
    cases hνe : ν
    · exact .inl rfl
    · refine .inr ⟨rfl, ?_⟩
      have hp : 0 < V := by
        rcases Nat.eq_zero_or_pos V with h0 | h0
        · exact absurd ⟨hνe, by rw [hV]; exact h0⟩ hv
        · exact h0
      have : 0 < T.length := by rw [← hT.out]; exact canon_len_pos hp
      exact ⟨by rw [beq_eq_false_iff_ne]; omega, by rw [beq_eq_false_iff_ne]; omega⟩
  clear hb hν hd hD hV hv
  rcases hTb with rfl | ⟨rfl, hT1, hT2⟩
  · go_enter Tryz.func21, Tryz.ntmps21
    go_wp2_with (first | (go_at_call 47; (with_reducible refine (Tryz.strings_CutPrefix S ⟨#[45]⟩ _).mono ?_); rintro e w1 ⟨rfl, rfl⟩; rw [HD.out, HP.out]) | (go_at_call 48; (with_reducible refine (nparse_ok D d _ HDl.out HB.out H2.out).mono ?_); rintro e w2 ⟨a2, c2, rfl, hca, hra, hc2⟩; have k2_r_0 : w2.cell? ⟨w.heap.size, 0, none⟩ = some (.bool false) := bcs hc2 (by first | with_reducible assumption | go_simp); have g2_r_0 : w2.frozen? ⟨w.heap.size, 0, none⟩ = false := bfs hc2 (v := .bool false) (by first | with_reducible assumption | go_simp) (by first | with_reducible assumption | go_simp); have k2_r_1 : w2.cell? ⟨w.heap.size, 1, none⟩ = some (.slice none 0 0) := bcs hc2 (by first | with_reducible assumption | go_simp); have g2_r_1 : w2.frozen? ⟨w.heap.size, 1, none⟩ = false := bfs hc2 (v := .slice none 0 0) (by first | with_reducible assumption | go_simp) (by first | with_reducible assumption | go_simp); have x2_r : ¬ w.heap.size = w2.heap.size := qne k2_r_0; have y2_r : ¬ w2.heap.size = w.heap.size := fun h => qne k2_r_0 h.symm; have q2_r : w.heap.size < w2.heap.size := qlt k2_r_0; have hbw := hb0.trans (hc2.mono hz0); clear hc2; rw [HT.out] at hca hra; rw [HT.out]))
    refine bodyPost_ret (v := .tuple #[.agg #[.bool false, .slice a2 T.length c2], .int .i64 0]) (by simp [results, Tryz.results21, go_sem, *]) rfl ?_
    refine ⟨a2, c2, ?_, ?_, ?_, ((hbw.setCell (by simp) _).setCell (by simp) _)⟩
    · rw [okV, hsg.out, hab.out, hT.out]
    · rw [hab.out, hT.out]; exact hca
    · rw [hab.out, hT.out]; exact ((hra.set (by simp) 0 _).set (by simp) 1 _).mono (by simp)
  · go_enter Tryz.func21, Tryz.ntmps21
    go_wp2_with (first | (go_at_call 47; (with_reducible refine (Tryz.strings_CutPrefix S ⟨#[45]⟩ _).mono ?_); rintro e w1 ⟨rfl, rfl⟩; rw [HD.out, HP.out]) | (go_at_call 48; (with_reducible refine (nparse_ok D d _ HDl.out HB.out H2.out).mono ?_); rintro e w2 ⟨a2, c2, rfl, hca, hra, hc2⟩; have k2_r_0 : w2.cell? ⟨w.heap.size, 0, none⟩ = some (.bool false) := bcs hc2 (by first | with_reducible assumption | go_simp); have g2_r_0 : w2.frozen? ⟨w.heap.size, 0, none⟩ = false := bfs hc2 (v := .bool false) (by first | with_reducible assumption | go_simp) (by first | with_reducible assumption | go_simp); have k2_r_1 : w2.cell? ⟨w.heap.size, 1, none⟩ = some (.slice none 0 0) := bcs hc2 (by first | with_reducible assumption | go_simp); have g2_r_1 : w2.frozen? ⟨w.heap.size, 1, none⟩ = false := bfs hc2 (v := .slice none 0 0) (by first | with_reducible assumption | go_simp) (by first | with_reducible assumption | go_simp); have x2_r : ¬ w.heap.size = w2.heap.size := qne k2_r_0; have y2_r : ¬ w2.heap.size = w.heap.size := fun h => qne k2_r_0 h.symm; have q2_r : w.heap.size < w2.heap.size := qlt k2_r_0; have hbw := hb0.trans (hc2.mono hz0); clear hc2; rw [HT.out] at hca hra; rw [HT.out]))
    refine bodyPost_ret (v := .tuple #[.agg #[.bool true, .slice a2 T.length c2], .int .i64 0]) (by simp [results, Tryz.results21, go_sem, *]) rfl ?_
    refine ⟨a2, c2, ?_, ?_, ?_, ((hbw.setCell (by simp) _).setCell (by simp) _)⟩
    · rw [okV, hsg.out, hab.out, hT.out]
    · rw [hab.out, hT.out]; exact hca
    · rw [hab.out, hT.out]; exact ((hra.set (by simp) 0 _).set (by simp) 1 _).mono (by simp)
end Go.Proofs.YtdkbmpncohhioaaGreatDoor

/- ZE -/
namespace Go.Proofs.YtdkbmpncohhioaaGreatDoor
open Go.RowKit
set_option linter.unusedVariables false
set_option linter.unusedSimpArgs false
attribute [local go_sem ↓] Go.wp_at_zero Go.wp_at_succ
set_option maxRecDepth 50000 in
theorem qparse_bad (S : ByteArray) (l : List UInt8) (w : World) (hS : S.data.toList = l) (hl : l.length ≤ 1000000) (hb : isDec (pdig l) = false) :
    Calls Tryz.prog 23 #[.string S] w fun e w' => e = .returned (errV 3) ∧ Below w.heap.size w w' := by
  have hb0 := Below.alloc (Below.refl w.heap.size w) (Nat.le_refl _) (.cells #[Value.bool false, Value.slice none 0 0] 31)
  have hz0 := hb0.size
  have hsz0 := str_size hS
  rcases Nat.eq_zero_or_pos l.length with h0 | h0
  · have hl0 := List.length_eq_zero_iff.1 h0
    subst hl0
    have := str_nil hS
    subst this
    clear hS hsz0 h0 hb
    go_enter Tryz.func23, Tryz.ntmps23
    go_wp2_with (go_at_call 51; (with_reducible refine (rparse_bad ⟨#[]⟩ [] _ rfl (by simp) rfl).mono ?_); rintro e w2 ⟨rfl, rfl⟩)
    refine bodyPost_ret (v := .tuple #[.agg #[.bool false, .slice none 0 0], .int .i64 3]) (by simp [results, Tryz.results23, go_sem, *]) rfl ?_
    exact ⟨rfl, by first | exact hb0 | exact (hb0.setCell (by simp) _).setCell (by simp) _⟩
  obtain ⟨n, hn⟩ : ∃ n, l.length = n := ⟨_, rfl⟩
  have hsz : S.size = n := by rw [hsz0, hn]
  have hs0 : 0 < S.size := by rw [hsz0]; exact h0
  have g0 := str_get hS 0 hs0 h0
  obtain ⟨x0, hx0⟩ : ∃ x, l[0].toNat = x := ⟨_, rfl⟩
  have hg0 : (S[0]'hs0).toNat = x0 := by rw [g0, hx0]
  have hnp : 0 < n := by omega
  have hpn : pneg l = decide (x0 = 45) := by
    unfold pneg
    rw [List.head?_eq_getElem?, List.getElem?_eq_getElem h0, ← hx0, Bool.eq_iff_iff, decide_eq_true_iff, decide_eq_true_iff]
    constructor
    · intro e; have := Option.some.inj e; rw [this]; rfl
    · intro e; congr 1; exact UInt8.toNat_inj.1 e
  obtain ⟨d, hd⟩ : ∃ d, pdig l = d := ⟨_, rfl⟩
  have hdl : d.length ≤ 1000000 := by
    rw [← hd]; unfold pdig; split
    · rw [List.length_drop]; omega
    · exact hl
  rw [hd] at hb
  have HB := Lib.hid hb
  by_cases h45 : x0 = 45
  · have hpt : pneg l = true := by rw [hpn]; exact decide_eq_true h45
    have b1 : ((x0 : Int) == 45) = true := by rw [h45]; rfl
    have b2 : (x0 == 45) = true := by rw [h45]; rfl
    have HDl : Hid ((S.extract 1 n).data.toList = d) := by
      show _ = _
      rw [str_drop hS 1 (by omega) n hn, ← hd, pdig, if_pos hpt]
    clear h45
    clear hb hd hS hsz0 h0 hx0 g0 hn hpn hl
    go_enter Tryz.func23, Tryz.ntmps23
    go_wp2_with (go_at_call 51; (with_reducible refine (rparse_bad (S.extract 1 n) d _ HDl.out hdl HB.out).mono ?_); rintro e w2 ⟨rfl, rfl⟩)
    refine bodyPost_ret (v := .tuple #[.agg #[.bool false, .slice none 0 0], .int .i64 3]) (by simp [results, Tryz.results23, go_sem, *]) rfl ?_
    exact ⟨rfl, by first | exact hb0 | exact (hb0.setCell (by simp) _).setCell (by simp) _⟩
  · have hpt : pneg l = false := by rw [hpn]; exact decide_eq_false h45
    have b1 : ((x0 : Int) == 45) = false := by rw [beq_eq_false_iff_ne]; omega
    have b2 : (x0 == 45) = false := by rw [beq_eq_false_iff_ne]; exact h45
    have HDl : Hid (S.data.toList = d) := by
      show _ = _
      rw [hS, ← hd, pdig, hpt]; rfl
    clear h45
    clear hb hd hS hsz0 h0 hx0 g0 hn hpn hl
    go_enter Tryz.func23, Tryz.ntmps23
    go_wp2_with (go_at_call 51; (with_reducible refine (rparse_bad S d _ HDl.out hdl HB.out).mono ?_); rintro e w2 ⟨rfl, rfl⟩)
    refine bodyPost_ret (v := .tuple #[.agg #[.bool false, .slice none 0 0], .int .i64 3]) (by simp [results, Tryz.results23, go_sem, *]) rfl ?_
    exact ⟨rfl, by first | exact hb0 | exact (hb0.setCell (by simp) _).setCell (by simp) _⟩
set_option maxRecDepth 50000 in
theorem qparse_long (S : ByteArray) (l : List UInt8) (w : World) (hS : S.data.toList = l) (hl : l.length ≤ 1000000) (hb : isDec (pdig l) = true) (h2 : 1000 < (pdig l).length) :
    Calls Tryz.prog 23 #[.string S] w fun e w' => e = .returned (errV 5) ∧ Below w.heap.size w w' := by
  have hb0 := Below.alloc (Below.refl w.heap.size w) (Nat.le_refl _) (.cells #[Value.bool false, Value.slice none 0 0] 31)
  have hz0 := hb0.size
  have hsz0 := str_size hS
  rcases Nat.eq_zero_or_pos l.length with h0 | h0
  · have hl0 := List.length_eq_zero_iff.1 h0
    subst hl0
    have : isDec [] = true := hb
    simp [isDec] at this
  obtain ⟨n, hn⟩ : ∃ n, l.length = n := ⟨_, rfl⟩
  have hsz : S.size = n := by rw [hsz0, hn]
  have hs0 : 0 < S.size := by rw [hsz0]; exact h0
  have g0 := str_get hS 0 hs0 h0
  obtain ⟨x0, hx0⟩ : ∃ x, l[0].toNat = x := ⟨_, rfl⟩
  have hg0 : (S[0]'hs0).toNat = x0 := by rw [g0, hx0]
  have hnp : 0 < n := by omega
  have hpn : pneg l = decide (x0 = 45) := by
    unfold pneg
    rw [List.head?_eq_getElem?, List.getElem?_eq_getElem h0, ← hx0, Bool.eq_iff_iff, decide_eq_true_iff, decide_eq_true_iff]
    constructor
    · intro e; have := Option.some.inj e; rw [this]; rfl
    · intro e; congr 1; exact UInt8.toNat_inj.1 e
  obtain ⟨d, hd⟩ : ∃ d, pdig l = d := ⟨_, rfl⟩
  have hdl : d.length ≤ 1000000 := by
    rw [← hd]; unfold pdig; split
    · rw [List.length_drop]; omega
    · exact hl
  rw [hd] at hb h2
  have HB := Lib.hid hb
  have H2 := Lib.hid h2
  by_cases h45 : x0 = 45
  · have hpt : pneg l = true := by rw [hpn]; exact decide_eq_true h45
    have b1 : ((x0 : Int) == 45) = true := by rw [h45]; rfl
    have b2 : (x0 == 45) = true := by rw [h45]; rfl
    have HDl : Hid ((S.extract 1 n).data.toList = d) := by
      show _ = _
      rw [str_drop hS 1 (by omega) n hn, ← hd, pdig, if_pos hpt]
    clear h45
    clear hb hd hS hsz0 h0 hx0 g0 hn hpn hl
    go_enter Tryz.func23, Tryz.ntmps23
    go_wp2_with (go_at_call 51; (with_reducible refine (rparse_long (S.extract 1 n) d _ HDl.out hdl HB.out H2.out).mono ?_); rintro e w2 ⟨rfl, rfl⟩)
    refine bodyPost_ret (v := .tuple #[.agg #[.bool false, .slice none 0 0], .int .i64 5]) (by simp [results, Tryz.results23, go_sem, *]) rfl ?_
    exact ⟨rfl, by first | exact hb0 | exact (hb0.setCell (by simp) _).setCell (by simp) _⟩
  · have hpt : pneg l = false := by rw [hpn]; exact decide_eq_false h45
    have b1 : ((x0 : Int) == 45) = false := by rw [beq_eq_false_iff_ne]; omega
    have b2 : (x0 == 45) = false := by rw [beq_eq_false_iff_ne]; exact h45
    have HDl : Hid (S.data.toList = d) := by
      show _ = _
      rw [hS, ← hd, pdig, hpt]; rfl
    clear h45
    clear hb hd hS hsz0 h0 hx0 g0 hn hpn hl
    go_enter Tryz.func23, Tryz.ntmps23
    go_wp2_with (go_at_call 51; (with_reducible refine (rparse_long S d _ HDl.out hdl HB.out H2.out).mono ?_); rintro e w2 ⟨rfl, rfl⟩)
    refine bodyPost_ret (v := .tuple #[.agg #[.bool false, .slice none 0 0], .int .i64 5]) (by simp [results, Tryz.results23, go_sem, *]) rfl ?_
    exact ⟨rfl, by first | exact hb0 | exact (hb0.setCell (by simp) _).setCell (by simp) _⟩
set_option maxRecDepth 50000 in
theorem qparse_zero (S : ByteArray) (l : List UInt8) (w : World) (hS : S.data.toList = l) (hb : isDec (pdig l) = true) (h2 : (pdig l).length ≤ 1000) (hv : pneg l = true ∧ dv (pdig l) = 0) :
    Calls Tryz.prog 23 #[.string S] w fun e w' => e = .returned (errV 3) ∧ Below w.heap.size w w' := by
  have hb0 := Below.alloc (Below.refl w.heap.size w) (Nat.le_refl _) (.cells #[Value.bool false, Value.slice none 0 0] 31)
  have hz0 := hb0.size
  have hsz0 := str_size hS
  rcases Nat.eq_zero_or_pos l.length with h0 | h0
  · have hl0 := List.length_eq_zero_iff.1 h0
    subst hl0
    have : isDec [] = true := hb
    simp [isDec] at this
  obtain ⟨n, hn⟩ : ∃ n, l.length = n := ⟨_, rfl⟩
  have hsz : S.size = n := by rw [hsz0, hn]
  have hs0 : 0 < S.size := by rw [hsz0]; exact h0
  have g0 := str_get hS 0 hs0 h0
  obtain ⟨x0, hx0⟩ : ∃ x, l[0].toNat = x := ⟨_, rfl⟩
  have hg0 : (S[0]'hs0).toNat = x0 := by rw [g0, hx0]
  have hnp : 0 < n := by omega
  have hpn : pneg l = decide (x0 = 45) := by
    unfold pneg
    rw [List.head?_eq_getElem?, List.getElem?_eq_getElem h0, ← hx0, Bool.eq_iff_iff, decide_eq_true_iff, decide_eq_true_iff]
    constructor
    · intro e; have := Option.some.inj e; rw [this]; rfl
    · intro e; congr 1; exact UInt8.toNat_inj.1 e
  obtain ⟨d, hd⟩ : ∃ d, pdig l = d := ⟨_, rfl⟩
  rw [hd] at hv
  rw [hd] at hb h2
  have HB := Lib.hid hb
  have H2 := Lib.hid h2
  obtain ⟨V, hV⟩ : ∃ V, dv d = V := ⟨_, rfl⟩
  obtain ⟨T, hT⟩ := ex_canon V
  have HT : Hid (canon (dv d) = T) := by show _ = _; rw [hV]; exact hT.out
  have VT : Hid (valD T = V) := by show _ = _; rw [← hT.out, valD_canon]
  rw [hV] at hv
  by_cases h45 : x0 = 45
  · have hpt : pneg l = true := by rw [hpn]; exact decide_eq_true h45
    have b1 : ((x0 : Int) == 45) = true := by rw [h45]; rfl
    have b2 : (x0 == 45) = true := by rw [h45]; rfl
    have HDl : Hid ((S.extract 1 n).data.toList = d) := by
      show _ = _
      rw [str_drop hS 1 (by omega) n hn, ← hd, pdig, if_pos hpt]
    clear h45
    have hTl : T.length = 0 := by rw [← hT.out, hv.2, canon_zero]; rfl
    have hTb : ((T.length : Int) == 0) = true := by rw [hTl]; rfl
    have hTb2 : (T.length == 0) = true := by rw [hTl]; rfl
    clear hb hd hS hsz0 h0 hx0 g0 hn hpn hV hv
    go_enter Tryz.func23, Tryz.ntmps23
    go_wp2_with (go_at_call 51; (with_reducible refine (rparse_ok (S.extract 1 n) d _ HDl.out HB.out H2.out).mono ?_); rintro e w2 ⟨a2, c2, rfl, hra, hc2⟩; have k2_r_0 : w2.cell? ⟨w.heap.size, 0, none⟩ = some (.bool false) := bcs hc2 (by first | with_reducible assumption | go_simp); have g2_r_0 : w2.frozen? ⟨w.heap.size, 0, none⟩ = false := bfs hc2 (v := .bool false) (by first | with_reducible assumption | go_simp) (by first | with_reducible assumption | go_simp); have k2_r_1 : w2.cell? ⟨w.heap.size, 1, none⟩ = some (.slice none 0 0) := bcs hc2 (by first | with_reducible assumption | go_simp); have g2_r_1 : w2.frozen? ⟨w.heap.size, 1, none⟩ = false := bfs hc2 (v := .slice none 0 0) (by first | with_reducible assumption | go_simp) (by first | with_reducible assumption | go_simp); have x2_r : ¬ w.heap.size = w2.heap.size := qne k2_r_0; have y2_r : ¬ w2.heap.size = w.heap.size := fun h => qne k2_r_0 h.symm; have q2_r : w.heap.size < w2.heap.size := qlt k2_r_0; have hbw := hb0.trans (hc2.mono hz0); have hz2 := hbw.size; clear hc2; rw [HT.out] at hra; rw [HT.out])
    refine bodyPost_ret (v := .tuple #[.agg #[.bool false, .slice none 0 0], .int .i64 3]) (by simp [results, Tryz.results23, go_sem, *]) rfl ?_
    exact ⟨rfl, by first | exact hbw | exact ((hbw.setCell (by simp) _).setCell (by simp) _)⟩
  · exact absurd hv.1 (by rw [hpn, decide_eq_false h45]; decide)
set_option maxRecDepth 50000 in
theorem qparse_ok (S : ByteArray) (l : List UInt8) (w : World) (hS : S.data.toList = l) (hb : isDec (pdig l) = true) (h2 : (pdig l).length ≤ 1000) (hv : ¬ (pneg l = true ∧ dv (pdig l) = 0)) :
    Calls Tryz.prog 23 #[.string S] w fun e w' => ∃ a c, e = .returned (okV (zv (pneg l) (dv (pdig l))) a c) ∧ RwF w.heap.size w' a (canon (zv (pneg l) (dv (pdig l))).natAbs) ∧ Below w.heap.size w w' := by
  have hb0 := Below.alloc (Below.refl w.heap.size w) (Nat.le_refl _) (.cells #[Value.bool false, Value.slice none 0 0] 31)
  have hz0 := hb0.size
  have hsz0 := str_size hS
  rcases Nat.eq_zero_or_pos l.length with h0 | h0
  · have hl0 := List.length_eq_zero_iff.1 h0
    subst hl0
    have : isDec [] = true := hb
    simp [isDec] at this
  obtain ⟨n, hn⟩ : ∃ n, l.length = n := ⟨_, rfl⟩
  have hsz : S.size = n := by rw [hsz0, hn]
  have hs0 : 0 < S.size := by rw [hsz0]; exact h0
  have g0 := str_get hS 0 hs0 h0
  obtain ⟨x0, hx0⟩ : ∃ x, l[0].toNat = x := ⟨_, rfl⟩
  have hg0 : (S[0]'hs0).toNat = x0 := by rw [g0, hx0]
  have hnp : 0 < n := by omega
  have hpn : pneg l = decide (x0 = 45) := by
    unfold pneg
    rw [List.head?_eq_getElem?, List.getElem?_eq_getElem h0, ← hx0, Bool.eq_iff_iff, decide_eq_true_iff, decide_eq_true_iff]
    constructor
    · intro e; have := Option.some.inj e; rw [this]; rfl
    · intro e; congr 1; exact UInt8.toNat_inj.1 e
  obtain ⟨d, hd⟩ : ∃ d, pdig l = d := ⟨_, rfl⟩
  rw [hd] at hv
  rw [hd] at hb h2
  have HB := Lib.hid hb
  have H2 := Lib.hid h2
  obtain ⟨V, hV⟩ : ∃ V, dv d = V := ⟨_, rfl⟩
  obtain ⟨T, hT⟩ := ex_canon V
  have HT : Hid (canon (dv d) = T) := by show _ = _; rw [hV]; exact hT.out
  have VT : Hid (valD T = V) := by show _ = _; rw [← hT.out, valD_canon]
  rw [hV] at hv
  rw [hd, hV]
  have fT : T.length ≤ 1000000 := by
    rw [← hT.out, ← hV]
    refine Nat.le_trans ((canon_len_le _ _).2 ?_) (show d.length + 1 ≤ 1000000 by omega)
    have h3 := dv_lt (isDec_digs hb).1
    exact Nat.lt_of_lt_of_le h3 (Nat.le_trans (ten_le_pw _) (pw_mono (by omega)))
  by_cases h45 : x0 = 45
  · have hpt : pneg l = true := by rw [hpn]; exact decide_eq_true h45
    have b1 : ((x0 : Int) == 45) = true := by rw [h45]; rfl
    have b2 : (x0 == 45) = true := by rw [h45]; rfl
    have HDl : Hid ((S.extract 1 n).data.toList = d) := by
      show _ = _
      rw [str_drop hS 1 (by omega) n hn, ← hd, pdig, if_pos hpt]
    rw [hpt]
    clear h45
    have hp : 0 < T.length := by
      rw [← hT.out]; apply canon_len_pos
      rcases Nat.eq_zero_or_pos V with h0 | h0
      · exact absurd ⟨hpt, h0⟩ hv
      · exact h0
    have hTb : ((T.length : Int) == 0) = false := by rw [beq_eq_false_iff_ne]; omega
    have hTb2 : (T.length == 0) = false := by rw [beq_eq_false_iff_ne]; omega
    clear hb hd hS hsz0 h0 hx0 g0 hn hpn hV hv hpt
    go_enter Tryz.func23, Tryz.ntmps23
    go_wp2_with (first | (go_at_call 51; (with_reducible refine (rparse_ok (S.extract 1 n) d _ HDl.out HB.out H2.out).mono ?_); rintro e w2 ⟨a2, c2, rfl, hra, hc2⟩; have k2_r_0 : w2.cell? ⟨w.heap.size, 0, none⟩ = some (.bool false) := bcs hc2 (by first | with_reducible assumption | go_simp); have g2_r_0 : w2.frozen? ⟨w.heap.size, 0, none⟩ = false := bfs hc2 (v := .bool false) (by first | with_reducible assumption | go_simp) (by first | with_reducible assumption | go_simp); have k2_r_1 : w2.cell? ⟨w.heap.size, 1, none⟩ = some (.slice none 0 0) := bcs hc2 (by first | with_reducible assumption | go_simp); have g2_r_1 : w2.frozen? ⟨w.heap.size, 1, none⟩ = false := bfs hc2 (v := .slice none 0 0) (by first | with_reducible assumption | go_simp) (by first | with_reducible assumption | go_simp); have x2_r : ¬ w.heap.size = w2.heap.size := qne k2_r_0; have y2_r : ¬ w2.heap.size = w.heap.size := fun h => qne k2_r_0 h.symm; have q2_r : w.heap.size < w2.heap.size := qlt k2_r_0; have hbw := hb0.trans (hc2.mono hz0); have hz2 := hbw.size; clear hc2; rw [HT.out] at hra; rw [HT.out]) | (go_at_call 52; (with_reducible refine (qnew_any true a2 _ c2 T _ rfl fT hra).mono ?_); rintro e w3 ⟨a3, c3, rfl, hr3, hc3⟩; have k3_r_0 : w3.cell? ⟨w.heap.size, 0, none⟩ = some (.bool false) := bcs hc3 (by first | with_reducible assumption | go_simp); have g3_r_0 : w3.frozen? ⟨w.heap.size, 0, none⟩ = false := bfs hc3 (v := .bool false) (by first | with_reducible assumption | go_simp) (by first | with_reducible assumption | go_simp); have k3_r_1 : w3.cell? ⟨w.heap.size, 1, none⟩ = some (.slice none 0 0) := bcs hc3 (by first | with_reducible assumption | go_simp); have g3_r_1 : w3.frozen? ⟨w.heap.size, 1, none⟩ = false := bfs hc3 (v := .slice none 0 0) (by first | with_reducible assumption | go_simp) (by first | with_reducible assumption | go_simp); have x3_r : ¬ w.heap.size = w3.heap.size := qne k3_r_0; have y3_r : ¬ w3.heap.size = w.heap.size := fun h => qne k3_r_0 h.symm; have q3_r : w.heap.size < w3.heap.size := qlt k3_r_0; have hbw3 := hbw.trans (hc3.mono hz2); clear hc3; rw [VT.out] at hr3; rw [VT.out]))
    refine bodyPost_ret (v := .tuple #[.agg #[.bool (decide (zv true V < 0)), .slice a3 (canon (zv true V).natAbs).length c3], .int .i64 0]) (by simp [results, Tryz.results23, go_sem, *]) rfl ?_
    exact ⟨a3, c3, rfl, ((hr3.set (by omega) 0 _).set (by omega) 1 _).mono hbw.size, (hbw3.setCell (by simp) _).setCell (by simp) _⟩
  · have hpt : pneg l = false := by rw [hpn]; exact decide_eq_false h45
    have b1 : ((x0 : Int) == 45) = false := by rw [beq_eq_false_iff_ne]; omega
    have b2 : (x0 == 45) = false := by rw [beq_eq_false_iff_ne]; exact h45
    have HDl : Hid (S.data.toList = d) := by
      show _ = _
      rw [hS, ← hd, pdig, hpt]; rfl
    rw [hpt]
    clear h45
    clear hb hd hS hsz0 h0 hx0 g0 hn hpn hV hv hpt
    go_enter Tryz.func23, Tryz.ntmps23
    go_wp2_with (first | (go_at_call 51; (with_reducible refine (rparse_ok S d _ HDl.out HB.out H2.out).mono ?_); rintro e w2 ⟨a2, c2, rfl, hra, hc2⟩; have k2_r_0 : w2.cell? ⟨w.heap.size, 0, none⟩ = some (.bool false) := bcs hc2 (by first | with_reducible assumption | go_simp); have g2_r_0 : w2.frozen? ⟨w.heap.size, 0, none⟩ = false := bfs hc2 (v := .bool false) (by first | with_reducible assumption | go_simp) (by first | with_reducible assumption | go_simp); have k2_r_1 : w2.cell? ⟨w.heap.size, 1, none⟩ = some (.slice none 0 0) := bcs hc2 (by first | with_reducible assumption | go_simp); have g2_r_1 : w2.frozen? ⟨w.heap.size, 1, none⟩ = false := bfs hc2 (v := .slice none 0 0) (by first | with_reducible assumption | go_simp) (by first | with_reducible assumption | go_simp); have x2_r : ¬ w.heap.size = w2.heap.size := qne k2_r_0; have y2_r : ¬ w2.heap.size = w.heap.size := fun h => qne k2_r_0 h.symm; have q2_r : w.heap.size < w2.heap.size := qlt k2_r_0; have hbw := hb0.trans (hc2.mono hz0); have hz2 := hbw.size; clear hc2; rw [HT.out] at hra; rw [HT.out]) | (go_at_call 52; (with_reducible refine (qnew_any false a2 _ c2 T _ rfl fT hra).mono ?_); rintro e w3 ⟨a3, c3, rfl, hr3, hc3⟩; have k3_r_0 : w3.cell? ⟨w.heap.size, 0, none⟩ = some (.bool false) := bcs hc3 (by first | with_reducible assumption | go_simp); have g3_r_0 : w3.frozen? ⟨w.heap.size, 0, none⟩ = false := bfs hc3 (v := .bool false) (by first | with_reducible assumption | go_simp) (by first | with_reducible assumption | go_simp); have k3_r_1 : w3.cell? ⟨w.heap.size, 1, none⟩ = some (.slice none 0 0) := bcs hc3 (by first | with_reducible assumption | go_simp); have g3_r_1 : w3.frozen? ⟨w.heap.size, 1, none⟩ = false := bfs hc3 (v := .slice none 0 0) (by first | with_reducible assumption | go_simp) (by first | with_reducible assumption | go_simp); have x3_r : ¬ w.heap.size = w3.heap.size := qne k3_r_0; have y3_r : ¬ w3.heap.size = w.heap.size := fun h => qne k3_r_0 h.symm; have q3_r : w.heap.size < w3.heap.size := qlt k3_r_0; have hbw3 := hbw.trans (hc3.mono hz2); clear hc3; rw [VT.out] at hr3; rw [VT.out]))
    refine bodyPost_ret (v := .tuple #[.agg #[.bool (decide (zv false V < 0)), .slice a3 (canon (zv false V).natAbs).length c3], .int .i64 0]) (by simp [results, Tryz.results23, go_sem, *]) rfl ?_
    exact ⟨a3, c3, rfl, ((hr3.set (by omega) 0 _).set (by omega) 1 _).mono hbw.size, (hbw3.setCell (by simp) _).setCell (by simp) _⟩
end Go.Proofs.YtdkbmpncohhioaaGreatDoor

/- ZF -/
namespace Go.Proofs.YtdkbmpncohhioaaGreatDoor
open Go.RowKit
set_option linter.unusedVariables false
set_option linter.unusedSimpArgs false
attribute [local go_sem ↓] Go.wp_at_zero Go.wp_at_succ
/-- The slice of integers at block g holds magnitudes of these lengths. -/
def HoldsN (w : World) (g : Nat) (ns : List Nat) : Prop := ∀ i (h : i < ns.length), ∃ s a d, w.cell? ⟨g, i * 2, none⟩ = some (.bool s) ∧ w.cell? ⟨g, i * 2 + 1, none⟩ = some (.slice a ns[i] d)
theorem HoldsN.below {w w' : World} {g : Nat} {ns : List Nat} (h : HoldsN w g ns) (hb : Below w.heap.size w w') : HoldsN w' g ns := fun i hi => by
  obtain ⟨s, a, d, h1, h2⟩ := h i hi
  exact ⟨s, a, d, bcs hb h1, bcs hb h2⟩
def FeR (w : World) (ns : List Nat) (k : Int) (i : Value) (wr : World) : Prop := ∃ p : Nat, p ≤ ns.length ∧ i = .int .i64 p ∧ Hid (∀ n ∈ ns.take p, (n : Int) ≤ k) ∧ Below w.heap.size w wr
end Go.Proofs.YtdkbmpncohhioaaGreatDoor

/- ZG -/
namespace Go.Proofs.YtdkbmpncohhioaaGreatDoor
open Go.RowKit
set_option linter.unusedVariables false
set_option linter.unusedSimpArgs false
attribute [local go_sem ↓] Go.wp_at_zero Go.wp_at_succ
theorem add0 (g k : Nat) : (⟨g, 0, none⟩ : Addr).add k = ⟨g, k, none⟩ := by
  unfold Addr.add
  split <;> simp_all
end Go.Proofs.YtdkbmpncohhioaaGreatDoor

