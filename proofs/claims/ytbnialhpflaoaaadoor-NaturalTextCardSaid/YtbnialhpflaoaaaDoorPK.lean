import Derived.Test.YtbnialhpflaoaaaDoorPJ
namespace Go.Proofs.YtbnialhpflaoaaaDoor
open Go.RowKit
set_option linter.unusedVariables false
set_option linter.unusedSimpArgs false
/-- The root found so far: its lower i binary digits are still 0. -/
def RqR (w : World) (V N : Nat) (r i : Value) (wr : World) : Prop := ∃ (p : Nat) (a : Option Addr) (c ρ : Nat) (X : List (BitVec 32)), i = .int .i64 ((p : Int) - 1) ∧ p ≤ N ∧ r = .slice a X.length c ∧ X.length ≤ 200000 ∧
  Hid (X = canon ρ ∧ valD X = ρ ∧ ρ * ρ ≤ V ∧ V < (ρ + 2 ^ p) * (ρ + 2 ^ p)) ∧ Rw wr a X ∧ Below w.heap.size w wr
theorem below_of_eq {w w' : World} (h : w = w') : Below w.heap.size w w' := h ▸ Below.refl _ _
theorem sq_start (V b : Nat) (h : V < 2 ^ b) : V < (0 + 2 ^ (b / 2 + 1)) * (0 + 2 ^ (b / 2 + 1)) := by
  rw [Nat.zero_add, ← Nat.pow_add]
  exact Nat.lt_of_lt_of_le h (Nat.pow_le_pow_right (by decide) (by omega))
theorem sq_up (r p : Nat) : r + 2 ^ p + 2 ^ p = r + 2 ^ (p + 1) := by rw [Nat.pow_succ]; omega
theorem sq_le {x y : Nat} (h : x * x ≤ y * y) : x ≤ y := by
  rcases Nat.lt_or_ge y x with h1 | h1
  · have := Nat.mul_lt_mul_of_lt_of_lt h1 h1
    omega
  · exact h1
theorem root_lt {V r n : Nat} (h : r * r ≤ V) (hV : V < pw n) : r < pw n := by
  rcases Nat.lt_or_ge r (pw n) with h1 | h1
  · exact h1
  · have h2 : pw n * 1 ≤ r * r := Nat.mul_le_mul h1 (by have := pw_pos n; omega)
    omega
set_option maxRecDepth 50000 in
set_option maxHeartbeats 2000000 in
theorem rsqrt_any (a : Option Addr) (n c : Nat) (l : List (BitVec 32)) (w : World) (hn : l.length = n) (hl : n ≤ 200) (hr : Rw w a l) :
    Calls Tryd.prog 37 #[.slice a n c] w fun e w' => ∃ r a1 c1, IsSq (valD l) r ∧ e = .returned (.slice a1 (canon r).length c1) ∧ Rw w' a1 (canon r) ∧ Below w.heap.size w w' := by
  subst hn
  obtain ⟨V, hV⟩ : ∃ V, valD l = V := ⟨_, rfl⟩
  have HV := Lib.hid hV
  rw [hV]
  have hVl : V < pw l.length := by rw [← hV]; exact valD_lt l
  have HVL := Lib.hid hVl
  clear hV hVl
  go_enter Tryd.func37, Tryd.ntmps37
  have hr1 := hr.below (Below.alloc (Below.refl w.heap.size w) (Nat.le_refl _) (.cells #[] 39))
  go_wp2_with (first
    | (go_at_call 24; go_loud ((with_reducible refine (rbl_any a _ c l _ rfl (by omega) hr1).mono ?_); rintro e w1 ⟨b, rfl, hbl, hb32, hb1⟩; obtain ⟨h2, hh2⟩ : ∃ h, b / 2 = h := ⟨_, rfl⟩; have hbq : (b : Int) / 2 = (h2 : Int) := (by omega); have hbt : (b : Int).tdiv 2 = (h2 : Int) := (by rw [Int.tdiv_eq_ediv_of_nonneg (by omega)]; omega); rw [HV.out] at hbl))
    )
  have hbl1 := hbl.1
  have hh2b : h2 ≤ 3200 := by omega
  have HH2 := Lib.hid hh2
  clear hbq hbt hb32 hbl hh2
  have hlit : ∀ W : World, Rw (W.alloc (.cells #[Value.int IntKind.u32 1] 39)) (some ⟨W.heap.size, 0, none⟩) [1#32] := fun W => Rw.of_alloc rfl rfl
  go_loopw [3, 4] (fun r i wr => RqR w V (h2 + 1) r i wr) (fun _ i _ => (intOf i + 1).toNat)
  case atStart =>
    refine ⟨h2 + 1, some ⟨w.heap.size, 0, none⟩, 0, 0, [], by go_num, Nat.le_refl _, rfl, Nat.zero_le _, ⟨canon_zero.symm, rfl, Nat.zero_le _, ?_⟩, Rw.nil _ _, ?_⟩
    · rw [← HH2.out]; exact sq_start V b hbl1
    · exact (Below.alloc (Below.refl w.heap.size w) (Nat.le_refl _) _).trans (hb1.mono (by simp))
  case round =>
    clear hbl1 hb1 hr1
    obtain ⟨p, ax, cx, ρ, X, rfl, hp, rfl, hlx, hq, hfx, hbr⟩ := hrel
    rcases Nat.eq_zero_or_pos p with rfl | hp0
    · obtain ⟨q1, q2, q3, q4⟩ := hq.out
      have HX := Lib.hid q1
      have HSQ : Hid (IsSq V ρ) := ⟨q3, q4⟩
      clear q1 q2 q3 q4
      go_wp2
      go_ret
      exact ⟨ρ, ax, cx, HSQ.out, by rw [← HX.out]; rfl, by rw [← HX.out]; exact hfx, hbr⟩
    obtain ⟨p, rfl⟩ : ∃ p', p = p' + 1 := ⟨p - 1, by omega⟩
    have hp4 : p ≤ 4096 := by omega
    obtain ⟨P, E2⟩ := ex_canon (valD [1#32] * 2 ^ p)
    have vP : valD P = 2 ^ p := by rw [← E2.out, valD_canon]; simp [valD_cons, valD_nil]
    obtain ⟨T, E3⟩ := ex_canon (valD X + valD P)
    have vT : valD T = ρ + 2 ^ p := by rw [← E3.out, valD_canon, vP, hq.out.2.1]
    obtain ⟨S, E4⟩ := ex_canon (valD T * valD T)
    have vS : valD S = (ρ + 2 ^ p) * (ρ + 2 ^ p) := by rw [← E4.out, valD_canon, vT]
    have fP : P.length ≤ 200 := by rw [← E2.out, show valD [1#32] * 2 ^ p = 2 ^ p by simp [valD_cons, valD_nil]]; exact pow_fit p 200 (by omega)
    have fX : X.length ≤ l.length := by rw [hq.out.1, canon_len_le]; exact root_lt hq.out.2.2.1 HVL.out
    have fT := fit_add (valD_lt X) (valD_lt P)
    rw [E3.out] at fT
    have fS := fit_mul (valD_lt T) (valD_lt T)
    rw [E4.out] at fS
    by_cases hle : (ρ + 2 ^ p) * (ρ + 2 ^ p) ≤ V
    · obtain ⟨v, hv, hv2⟩ : ∃ v : Int, cmpN (valD S) (valD l) = v ∧ decide (v ≤ 0) = true := by
        rw [vS, HV.out]
        rcases Nat.lt_or_eq_of_le hle with h1 | h1
        · exact ⟨-1, cmpN_lt h1, rfl⟩
        · exact ⟨0, by rw [h1, cmpN_eq], rfl⟩
      have HC := Lib.hid hv
      have HT : Hid (T = canon (ρ + 2 ^ p) ∧ valD T = ρ + 2 ^ p ∧ (ρ + 2 ^ p) * (ρ + 2 ^ p) ≤ V ∧ V < (ρ + 2 ^ p + 2 ^ p) * (ρ + 2 ^ p + 2 ^ p)) := ⟨by rw [← vT, ← E3.out, valD_canon], vT, hle, by rw [sq_up]; exact hq.out.2.2.2⟩
      clear vP vT vS hle hv
      go_wp2_with (first
        | (go_at_call 53; go_loud ((with_reducible refine (rup_any (some ⟨wr.heap.size, 0, none⟩) 1 1 p [1#32] _ rfl (by omega) hp4 (hlit wr)).mono ?_); rintro e w3 ⟨a3, c3, rfl, hf3, hb3⟩; have hn3 := Rw.of_own hf3; rw [E2.out] at hn3; rw [E2.out]; have hb3a := (Below.alloc (Below.refl wr.heap.size wr) (Nat.le_refl _) _).trans (hb3.mono (by simp)); have hx3 := hfx.below hb3a))
        | (go_at_call 28; go_loud ((with_reducible refine (radd_any ax a3 _ cx _ c3 X P _ rfl rfl (by omega) (by omega) hx3 hn3).mono ?_); rintro e w4 ⟨a4, c4, rfl, hf4, hb4⟩; have hn4 := Rw.of_own hf4; rw [E3.out] at hn4; rw [E3.out]; have hb34 := hb3a.trans (hb4.mono hb3a.size)))
        | (go_at_call 30; go_loud ((with_reducible refine (rmul_any a4 a4 _ c4 _ c4 T T _ rfl rfl (by omega) (by omega) hn4 hn4).mono ?_); rintro e w5 ⟨a5, c5, rfl, hf5, hb5⟩; have hn5 := Rw.of_own hf5; rw [E4.out] at hn5; rw [E4.out]; have hb35 := hb34.trans (hb5.mono hb34.size); have hn4' := hn4.below hb5))
        | (go_at_call 22; go_loud ((with_reducible refine (rcmp_any a5 a _ c5 _ c S l _ rfl rfl (by omega) (by omega) hn5 ((hr.below hbr).below hb35)).mono ?_); rintro e w6 ⟨rfl, hw6⟩; have hb6 := below_of_eq hw6; clear hw6; rw [HC.out])))
      go_roundw
      case rel => exact ⟨p, a4, c4, ρ + 2 ^ p, T, by go_num, by omega, rfl, by omega, HT, hn4'.below hb6, hbr.trans ((hb35.trans (hb6.mono hb35.size)).mono hbr.size)⟩
      case measure => simp [intOf] <;> omega
    · have HC : Hid (cmpN (valD S) (valD l) = 1) := cmpN_gt (by rw [vS, HV.out]; omega)
      have HT : Hid (X = canon ρ ∧ valD X = ρ ∧ ρ * ρ ≤ V ∧ V < (ρ + 2 ^ p) * (ρ + 2 ^ p)) := ⟨hq.out.1, hq.out.2.1, hq.out.2.2.1, by omega⟩
      clear vP vT vS hle
      go_wp2_with (first
        | (go_at_call 53; go_loud ((with_reducible refine (rup_any (some ⟨wr.heap.size, 0, none⟩) 1 1 p [1#32] _ rfl (by omega) hp4 (hlit wr)).mono ?_); rintro e w3 ⟨a3, c3, rfl, hf3, hb3⟩; have hn3 := Rw.of_own hf3; rw [E2.out] at hn3; rw [E2.out]; have hb3a := (Below.alloc (Below.refl wr.heap.size wr) (Nat.le_refl _) _).trans (hb3.mono (by simp)); have hx3 := hfx.below hb3a))
        | (go_at_call 28; go_loud ((with_reducible refine (radd_any ax a3 _ cx _ c3 X P _ rfl rfl (by omega) (by omega) hx3 hn3).mono ?_); rintro e w4 ⟨a4, c4, rfl, hf4, hb4⟩; have hn4 := Rw.of_own hf4; rw [E3.out] at hn4; rw [E3.out]; have hb34 := hb3a.trans (hb4.mono hb3a.size)))
        | (go_at_call 30; go_loud ((with_reducible refine (rmul_any a4 a4 _ c4 _ c4 T T _ rfl rfl (by omega) (by omega) hn4 hn4).mono ?_); rintro e w5 ⟨a5, c5, rfl, hf5, hb5⟩; have hn5 := Rw.of_own hf5; rw [E4.out] at hn5; rw [E4.out]; have hb35 := hb34.trans (hb5.mono hb34.size); have hn4' := hn4.below hb5))
        | (go_at_call 22; go_loud ((with_reducible refine (rcmp_any a5 a _ c5 _ c S l _ rfl rfl (by omega) (by omega) hn5 ((hr.below hbr).below hb35)).mono ?_); rintro e w6 ⟨rfl, hw6⟩; have hb6 := below_of_eq hw6; clear hw6; rw [HC.out])))
      go_roundw
      case rel => exact ⟨p, ax, cx, ρ, X, by go_num, by omega, rfl, hlx, HT, (hfx.below hb35).below hb6, hbr.trans ((hb35.trans (hb6.mono hb35.size)).mono hbr.size)⟩
      case measure => simp [intOf] <;> omega
end Go.Proofs.YtbnialhpflaoaaaDoor
