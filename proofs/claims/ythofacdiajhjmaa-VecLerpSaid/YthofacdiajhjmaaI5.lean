import Derived.Test.YthofacdiajhjmaaI4
import Derived.Test.YthofacdiajhjmaaImc
namespace Go.Proofs.Ythofacdiajhjmaa
open Go.RowKit
set_option linter.unusedVariables false
set_option linter.unusedSimpArgs false
attribute [local go_sem ↓] Go.wp_at_zero Go.wp_at_succ
theorem or_zero (x : BitVec 32) : bits .or .u64 0 (x.toNat : Int) = (x.toNat : Int) := by
  have := u64_or_nat 0 x.toNat (by omega) (by have := x.isLt; omega)
  rw [Nat.zero_or] at this
  exact this
theorem or_join (x y : BitVec 32) : bits .or .u64 (x.toNat : Int) ((y.toNat : Int) * 4294967296) = (x.toNat : Int) + (y.toNat : Int) * 4294967296 := by
  have hx := x.isLt
  have hy := y.isLt
  rw [show ((y.toNat : Int) * 4294967296) = ((y.toNat * 4294967296 : Nat) : Int) by omega, u64_or_nat _ _ (by omega) (by omega), Nat.or_comm, nat_join 32 _ _ (by omega) (by omega)]
  omega
theorem mdVal_neg {K : Nat} (h : K ≤ 9223372036854775808) : mdVal true K = -(K : Int) ∧ mdOk true K = true := by
  have : mdOk true K = true := by simp [mdOk]; omega
  exact ⟨by simp [mdVal, this], this⟩
theorem mdVal_pos {K : Nat} (h : K < 9223372036854775808) : mdVal false K = (K : Int) ∧ mdOk false K = true := by
  have : mdOk false K = true := by simp [mdOk]; omega
  exact ⟨by simp [mdVal, this], this⟩
theorem mdVal_no {s : Bool} {K : Nat} (h : 9223372036854775808 < K ∨ s = false ∧ 9223372036854775808 ≤ K) : mdVal s K = 0 ∧ mdOk s K = false := by
  have : mdOk s K = false := by cases s <;> simp [mdOk] <;> simp at h <;> omega
  exact ⟨by simp [mdVal, this], this⟩
def TiRel (L : List (BitVec 32)) (u i : Value) : Prop := ∃ p : Nat, p ≤ L.length ∧ p ≤ 2 ∧ i = .int .i64 p ∧ ∃ x : Nat, u = .int .u64 x ∧ Hid (x = valD (L.take p))
set_option maxRecDepth 50000 in
set_option maxHeartbeats 1000000 in
theorem toint_any (s : Bool) (a : Option Addr) (n c : Nat) (K : Nat) (w : World) (hn : (canon K).length = n) (hl : n ≤ 10000000) (hr : Rw w a (canon K)) :
    Calls Try.prog 23 #[.agg #[.bool s, .slice a n c]] w fun e w' => e = .returned (.tuple #[.int .i64 (mdVal (s && decide (0 < K)) K), .bool (mdOk (s && decide (0 < K)) K)]) ∧ Below w.heap.size w w' := by
  subst hn
  obtain ⟨L, hL⟩ := ex_canon K
  have hv : Hid (valD L = K) := by show _ = _; rw [← hL.out, valD_canon]
  have hLt : Hid (trimD L = L) := by show _ = _; rw [← hL.out, trim_canon]
  rw [hL.out] at hr hl ⊢
  obtain ⟨σ, hσ⟩ : ∃ σ, (s && decide (0 < K)) = σ := ⟨_, rfl⟩
  rw [hσ]
  have Hσ := Lib.hid hσ
  clear hσ
  have hb1 := Below.alloc (Below.refl w.heap.size w) (Nat.le_refl _) (.cells #[Value.bool s, Value.slice a L.length c] 43)
  go_enter Try.func23, Try.ntmps23
  go_wp2_with (go_at_call 44; (with_reducible refine (inew_any s a _ c L _ rfl (by omega) (hr.below hb1)).mono ?_); rintro e w1 ⟨a1, c1, rfl, hr1, hc1⟩; have hbw1 := hb1.trans (hc1.mono hb1.size); have hz1 := hbw1.size; clear hc1 hb1; rw [hv.out, hL.out] at hr1; rw [hv.out, hL.out, Hσ.out])
  have hrW := hr1.1.below (Below.alloc (Below.refl w1.heap.size w1) (Nat.le_refl _) (.cells #[Value.bool σ, Value.slice a1 L.length c1] 43))
  have hbW := hbw1.alloc hz1 (.cells #[Value.bool σ, Value.slice a1 L.length c1] 43)
  clear hr1 hr
  go_loop [5, 6] (fun u i => TiRel L u i) (fun _ i => 2 - intOf i |>.toNat)
  case atStart => exact ⟨0, Nat.zero_le _, by omega, rfl, 0, rfl, by rw [List.take_zero]; exact rfl⟩
  case round =>
    obtain ⟨p, hp, hp2, rfl, x, rfl, hx⟩ := hrel
    by_cases hend : p = L.length
    · have hxK : Hid (x = K) := by show _ = _; rw [hx.out, hend, List.take_length]; exact hv.out
      have h1 : decide ((p : Int) < (L.length : Int)) = false := by rw [decide_eq_false_iff_not]; omega
      have h2 : decide (p < L.length) = false := by rw [decide_eq_false_iff_not]; omega
      have hxl : x < 18446744073709551616 := by
        have := valD_lt (L.take p)
        rw [← hx.out] at this
        refine Nat.lt_of_lt_of_le this (Nat.le_trans (pw_mono (show (L.take p).length ≤ 2 by rw [List.length_take]; omega)) (Nat.le_of_eq ?_))
        decide
      have HL := Lib.hid hend
      clear hend hp hp2
      cases σ
      · by_cases hb : x < 9223372036854775808
        · have hm := Lib.hid (mdVal_pos hb)
          have hw1 : IntKind.i64.wrap (x : Int) = x := by rw [IntKind.wrap_i64]; omega
          have hb' : decide ((x : Int) < 9223372036854775808) = true := by rw [decide_eq_true_iff]; omega
          clear hb hxl
          go_wp2
          go_ret2
          exact ⟨by rw [← hxK.out, hm.out.1, hm.out.2]; rfl, hbW⟩
        · have hm := Lib.hid (mdVal_no (s := false) (K := x) (.inr ⟨rfl, by omega⟩))
          have hb' : decide ((x : Int) < 9223372036854775808) = false := by rw [decide_eq_false_iff_not]; omega
          clear hb hxl
          go_wp2
          go_ret2
          exact ⟨by rw [← hxK.out, hm.out.1, hm.out.2]; rfl, hbW⟩
      · by_cases hb : x ≤ 9223372036854775808
        · have hm := Lib.hid (mdVal_neg hb)
          have hw1 : IntKind.i64.wrap (IntKind.u64.wrap (-(x : Int))) = -x := by rw [IntKind.wrap_u64, IntKind.wrap_i64]; omega
          have hb' : decide ((x : Int) ≤ 9223372036854775808) = true := by rw [decide_eq_true_iff]; omega
          clear hb hxl
          go_wp2
          go_ret2
          exact ⟨by rw [← hxK.out, hm.out.1, hm.out.2]; rfl, hbW⟩
        · have hm := Lib.hid (mdVal_no (s := true) (K := x) (.inl (by omega)))
          have hb' : decide ((x : Int) ≤ 9223372036854775808) = false := by rw [decide_eq_false_iff_not]; omega
          clear hb hxl
          go_wp2
          go_ret2
          exact ⟨by rw [← hxK.out, hm.out.1, hm.out.2]; rfl, hbW⟩
    · have hlt : p < L.length := by omega
      obtain ⟨ad, rfl, hc⟩ := hrW p hlt
      have hcase : p = 0 ∨ p = 1 ∨ p = 2 := by omega
      rcases hcase with rfl | rfl | rfl
      · have h1 : Hid (x = 0) := by show _ = _; rw [hx.out, List.take_zero]; rfl
        obtain ⟨y, hy⟩ : ∃ y, L[0] = y := ⟨_, rfl⟩
        rw [hy] at hc
        have HY : Hid (valD (L.take 1) = y.toNat) := by
          show _ = _
          rw [valD_take L 0 hlt, List.take_zero, hy, pw_zero, valD_nil]; omega
        have ho := or_zero y
        have hx0 : x = 0 := h1.out
        clear hy hx h1
        subst hx0
        simp [Addr.add] at hc
        go_wp2
        go_round
        case rel => exact ⟨1, by omega, by omega, rfl, y.toNat, rfl, HY.out.symm⟩
        case measure => simp [intOf]
      · have h0 : 0 < L.length := by omega
        obtain ⟨z, hz⟩ : ∃ z, L[0] = z := ⟨_, rfl⟩
        obtain ⟨y, hy⟩ : ∃ y, L[1] = y := ⟨_, rfl⟩
        rw [hy] at hc
        have hx1 : x = z.toNat := by
          rw [hx.out, valD_take L 0 h0, List.take_zero, hz, pw_zero, valD_nil]; omega
        have HY : Hid (valD (L.take 2) = z.toNat + y.toNat * 4294967296) := by
          show _ = _
          rw [valD_take L 1 hlt, ← hx.out, hx1, hy, show pw 1 = 4294967296 by decide]; omega
        have ho := or_join z y
        clear hy hz hx
        subst hx1
        simp [Addr.add] at hc
        go_wp2
        go_round
        case rel => exact ⟨2, by omega, by omega, rfl, z.toNat + y.toNat * 4294967296, by go_num, HY.out.symm⟩
        case measure => simp [intOf]
      · have h3 : 2 ^ 64 ≤ K := by
          have h4 := valD_len L hLt.out (by omega)
          rw [hv.out] at h4
          refine Nat.le_trans (Nat.le_trans (Nat.le_of_eq ?_) (pw_mono (show 2 ≤ L.length - 1 by omega))) h4
          decide
        have hm := Lib.hid (mdVal_no (s := σ) (K := K) (.inl (by omega)))
        clear h3
        go_wp2
        go_ret2
        exact ⟨by rw [hm.out.1, hm.out.2]; rfl, hbW⟩
end Go.Proofs.Ythofacdiajhjmaa
