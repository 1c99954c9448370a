import Derived.Test.YtbnialhpflaoaaaDoorN5
namespace Go.Proofs.YtbnialhpflaoaaaDoor
open Go.RowKit
set_option linter.unusedVariables false
set_option linter.unusedSimpArgs false
/-- The first two digits over the divisor's first are at least the quotient's digit. -/
theorem est_num (l k : List (BitVec 32)) (h0 : 0 < k.length) (hlt : valD l < 4294967296 * valD k) : valD l / valD k ≤ (digD l k.length * 4294967296 + digD l (k.length - 1)) / digD k (k.length - 1) ∨ digD k (k.length - 1) = 0 := by
  rcases Nat.eq_zero_or_pos (digD k (k.length - 1)) with hy | hy
  · exact .inr hy
  left
  have h1 : valD (l.drop (k.length + 1)) = 0 := by
    rw [drop_div]
    apply Nat.div_eq_of_lt
    have := valD_lt k
    rw [pw_succ]
    omega
  have h2 : digD l k.length * 4294967296 + digD l (k.length - 1) = valD l / pw (k.length - 1) := by
    rw [← drop_div, drop_dig, show k.length - 1 + 1 = k.length by omega, drop_dig, h1]
    omega
  have h3 : valD k = valD (k.take (k.length - 1)) + pw (k.length - 1) * digD k (k.length - 1) := by
    have := valD_dig k (k.length - 1)
    rwa [show k.length - 1 + 1 = k.length by omega, List.take_length] at this
  rw [h2]
  apply (Nat.le_div_iff_mul_le hy).2
  apply (Nat.le_div_iff_mul_le (pw_pos _)).2
  have h4 := Nat.div_mul_le_self (valD l) (valD k)
  have h5 : valD l / valD k * (pw (k.length - 1) * digD k (k.length - 1)) ≤ valD l / valD k * valD k := Nat.mul_le_mul_left _ (by omega)
  have h6 : valD l / valD k * digD k (k.length - 1) * pw (k.length - 1) = valD l / valD k * (pw (k.length - 1) * digD k (k.length - 1)) := by grind
  omega
theorem dig_q (a : Option Addr) (n c i : Nat) (l : List (BitVec 32)) (w : World) (hn : l.length = n) (hr : Rw w a l) :
    Calls Tryd.prog 45 #[.slice a n c, .int .i64 i] w fun e w' => e = .returned (.int .u64 (digD l i : Nat)) ∧ w' = w := (dig_any a n c i l w hn hr).mono fun _ _ ⟨h1, h2⟩ => ⟨h1, h2.symm⟩
theorem dig_p (a : Option Addr) (n c i : Nat) (l : List (BitVec 32)) (w : World) (hi : 0 < i) (hn : l.length = n) (hr : Rw w a l) :
    Calls Tryd.prog 45 #[.slice a n c, .int .i64 ((i : Int) - 1)] w fun e w' => e = .returned (.int .u64 (digD l (i - 1) : Nat)) ∧ w' = w := by
  rw [show (i : Int) - 1 = ((i - 1 : Nat) : Int) by omega]
  exact dig_q a n c (i - 1) l w hn hr
theorem min_gen (z D M : Int) (h : (z ≤ M ∧ D = z) ∨ (M < z ∧ D = M)) : (if M < z then M else z) = D := by
  rcases h with ⟨h, e⟩ | ⟨h, e⟩
  · rw [if_neg (by omega), e]
  · rw [if_pos h, e]
def OftRel (w : World) (K Q : Nat) (d p : Value) (wr : World) : Prop := ∃ (t : Nat) (a : Option Addr) (c : Nat), Q ≤ t ∧ t ≤ 4294967295 ∧ d = .int .u64 t ∧ p = .slice a (canon (K * t)).length c ∧ Rw wr a (canon (K * t)) ∧ Below w.heap.size w wr
theorem canon_fit {K t m : Nat} (hK : K < pw m) (ht : t ≤ 4294967295) (hm : m ≤ 900000) : (canon (K * t)).length ≤ 1000000 := by
  have : (canon (K * t)).length ≤ m + 1 := by
    rw [canon_len_le, pw_succ]
    exact Nat.lt_of_le_of_lt (Nat.mul_le_mul_left _ ht) (by omega)
  omega
set_option maxRecDepth 50000 in
set_option maxHeartbeats 1000000 in
theorem often_any (a b : Option Addr) (n c m d : Nat) (l k : List (BitVec 32)) (w : World) (hn : l.length = n) (hm : k.length = m) (hl : n ≤ 900000) (hl2 : m ≤ 900000) (hr : Rw w a l) (hs : Rw w b k) (h0 : 0 < m) (htop : 0 < digD k (m - 1)) (hlt : valD l < 4294967296 * valD k) :
    Calls Tryd.prog 64 #[.slice a n c, .slice b m d] w fun e w' => ∃ a' c', e = .returned (.tuple #[.int .u64 (valD l / valD k : Nat), .slice a' (canon (valD l % valD k)).length c']) ∧ w'.ownsRow w.heap.size 39 1 (.slice a' (canon (valD l % valD k)).length c') (canon (valD l % valD k)).length (bv32 (canon (valD l % valD k))) ∧ Below w.heap.size w w' := by
  subst hn hm
  have hest := (est_num l k h0 hlt).resolve_right (by omega)
  have hQB : valD l / valD k ≤ 4294967295 := Nat.le_of_lt_succ (Nat.div_lt_of_lt_mul (by rw [Nat.mul_comm]; exact hlt))
  have hVp : 0 < valD k := by
    rcases Nat.eq_zero_or_pos (valD k) with h | h
    · rw [h] at hlt; omega
    · exact h
  obtain ⟨bd, rfl, hc⟩ := hs (k.length - 1) (by omega)
  rw [← digD_in _ _ (by omega)] at hc
  obtain ⟨y, hy⟩ : ∃ y, digD k (k.length - 1) = y := ⟨_, rfl⟩
  have hy2 := digD_lt k (k.length - 1)
  rw [hy] at hest hc htop hy2
  clear hy
  obtain ⟨x1, hx1⟩ : ∃ x, digD l k.length = x := ⟨_, rfl⟩
  obtain ⟨x0, hx0⟩ : ∃ x, digD l (k.length - 1) = x := ⟨_, rfl⟩
  have hx1l := digD_lt l k.length
  have hx0l := digD_lt l (k.length - 1)
  have C1 : ∀ W : World, Rw W a l → Calls Tryd.prog 45 #[.slice a l.length c, .int .i64 k.length] W fun e w' => e = .returned (.int .u64 (x1 : Nat)) ∧ w' = W := fun W h => by rw [← hx1]; exact dig_q a _ c _ l W rfl h
  have C0 : ∀ W : World, Rw W a l → Calls Tryd.prog 45 #[.slice a l.length c, .int .i64 ((k.length : Int) - 1)] W fun e w' => e = .returned (.int .u64 (x0 : Nat)) ∧ w' = W := fun W h => by rw [← hx0]; exact dig_p a _ c _ l W h0 rfl h
  rw [hx1] at hest hx1l
  rw [hx0] at hest hx0l
  clear hx1 hx0
  have HC1 := Lib.hid C1
  have HC0 := Lib.hid C0
  clear C1 C0
  obtain ⟨z, hz⟩ : ∃ z, (x1 * 4294967296 + x0) / y = z := ⟨_, rfl⟩
  have hzi : ((x1 : Int) * 4294967296 + (x0 : Int)) / (y : Int) = (z : Int) := by rw [← hz, Int.natCast_ediv, Int.natCast_add, Int.natCast_mul]; rfl
  have hzl : z ≤ x1 * 4294967296 + x0 := by rw [← hz]; exact Nat.div_le_self _ _
  rw [hz] at hest
  clear hz
  have HE := Lib.hid hest
  have HQ := Lib.hid hQB
  have HV := Lib.hid hVp
  have HL := Lib.hid hlt
  clear hest hQB hVp hlt
  have hyn : ((y : Int) == 0) = false := by rw [beq_eq_false_iff_ne]; omega
  have w1 : IntKind.i64.wrap ((k.length : Int) - 1) = (k.length : Int) - 1 := IntWalk.i64_in _ (by omega)
  have w2 : IntKind.u64.wrap ((x1 : Int) * 4294967296) = (x1 : Int) * 4294967296 := IntWalk.u64_in _ (by omega)
  have w3 : IntKind.u64.wrap ((x1 : Int) * 4294967296 + (x0 : Int)) = (x1 : Int) * 4294967296 + (x0 : Int) := IntWalk.u64_in _ (by omega)
  have w5 : 0 ≤ (k.length : Int) - 1 := by omega
  have w6 : ((k.length : Int) - 1).toNat = k.length - 1 := by omega
  go_enter Tryd.func64, Tryd.ntmps64
  go_wp2
  go_quiet ((first
    | (go_at_call 45; with_reducible exact Calls.quiet_of_same (HC1.out _ (hr.drewN _)))
    | (go_at_call 45; with_reducible exact Calls.quiet_of_same (HC0.out _ (hr.drewN _)))))
  clear w1 w2 w3 w5 w6
  obtain ⟨D, hD, hD1, hD2⟩ : ∃ D : Nat, ((z ≤ 4294967295 ∧ D = z) ∨ (4294967295 < z ∧ D = 4294967295)) ∧ D ≤ 4294967295 ∧ valD l / valD k ≤ D := by
    rcases Nat.lt_or_ge 4294967295 z with h | h
    · exact ⟨4294967295, .inr ⟨h, rfl⟩, Nat.le_refl _, HQ.out⟩
    · exact ⟨z, .inl ⟨h, rfl⟩, h, HE.out⟩
  have hDi : ((z : Int) ≤ 4294967295 ∧ (D : Int) = z) ∨ ((4294967295 : Int) < z ∧ (D : Int) = 4294967295) := by
    rcases hD with ⟨h, e⟩ | ⟨h, e⟩
    · exact .inl ⟨by omega, by omega⟩
    · exact .inr ⟨by omega, by omega⟩
  have m4 := min_gen _ _ _ hDi
  have HD2 := Lib.hid hD2
  clear hD hD2 hDi
  go_wp2_with (go_at_call 56; (with_reducible refine (rtim_any _ _ _ k D _ rfl (by omega) (by omega) (hs.drewN _)).mono ?_); rintro e w2 ⟨a2, c2, rfl, hown2, hb2⟩)
  have hbw := (below_drewN (Below.refl w.heap.size w) _).trans hb2
  have hrw := Rw.of_own hown2
  clear hown2
  go_loopw [8, 9] (fun d p wr => OftRel w (valD k) (valD l / valD k) d p wr) (fun d _ _ => (intOf d).toNat)
  case atStart => exact ⟨D, a2, c2, HD2.out, hD1, rfl, rfl, hrw, hbw⟩
  case round =>
    obtain ⟨t, a3, c3, hQt, ht, rfl, rfl, hr3, hb3⟩ := hrel
    have HT := Lib.hid hQt
    clear hQt
    have hfit := Lib.hid (canon_fit (valD_lt k) ht hl2)
    have hval := Lib.hid (valD_canon (valD k * t))
    have hrr := hr.below hb3
    have hsr := hs.below hb3
    by_cases hgt : valD l < valD k * t
    · have HG := Lib.hid hgt
      clear hgt
      have ht0 : 0 < t := by
        rcases Nat.eq_zero_or_pos t with h | h
        · have := HG.out; subst h; omega
        · exact h
      have hge : Hid (valD k ≤ valD (canon (valD k * t))) := by
        show _ ≤ _
        rw [hval.out]
        exact Nat.le_mul_of_pos_right _ ht0
      have hnew : Hid (canon (valD (canon (valD k * t)) - valD k) = canon (valD k * (t - 1))) := by
        show _ = _
        rw [hval.out, Nat.mul_sub, Nat.mul_one]
      go_wp2_with (first
        | (go_at_call 22; (with_reducible refine (rcmp_gt _ _ _ _ _ _ (canon (valD k * t)) l _ rfl rfl hfit.out (by omega) hr3 hrr (by rw [hval.out]; exact HG.out)).mono ?_); rintro e w4 ⟨rfl, rfl⟩)
        | (go_at_call 26; (with_reducible refine (rsub_yes _ _ _ _ _ _ (canon (valD k * t)) k _ rfl rfl hfit.out (by omega) hr3 hsr hge.out).mono ?_); rintro e w5 ⟨a5, c5, rfl, hown5, hb5⟩; rw [hnew.out] at hown5; rw [hnew.out]))
      go_roundw
      case rel =>
        refine ⟨t - 1, a5, c5, ?_, by omega, by go_num, rfl, Rw.of_own hown5, hb3.trans (hb5.mono hb3.size)⟩
        have h1 := HG.out
        have h2 : valD l / valD k < t := Nat.div_lt_of_lt_mul h1
        omega
      case measure => simp [intOf] <;> omega
    · have HG := Lib.hid hgt
      clear hgt
      have hle : Hid (valD (canon (valD k * t)) ≤ valD l) := by
        show _ ≤ _
        rw [hval.out]
        have := HG.out; omega
      have htQ : t = valD l / valD k := by
        have h1 := HT.out
        have h2 : t ≤ valD l / valD k := (Nat.le_div_iff_mul_le HV.out).2 (by rw [Nat.mul_comm]; have := HG.out; omega)
        omega
      have hnew : Hid (canon (valD l - valD (canon (valD k * t))) = canon (valD l % valD k)) := by
        show _ = _
        rw [hval.out, htQ]
        exact congrArg canon (by have := Nat.mod_add_div (valD l) (valD k); omega)
      have HTQ := Lib.hid htQ
      clear htQ
      go_wp2_with (first
        | (go_at_call 22; (with_reducible refine (rcmp_le _ _ _ _ _ _ (canon (valD k * t)) l _ rfl rfl hfit.out (by omega) hr3 hrr hle.out).mono ?_); rintro e w4 ⟨r, hr0, hr1, rfl, rfl⟩)
        | (go_at_call 26; (with_reducible refine (rsub_yes _ _ _ _ _ _ l (canon (valD k * t)) _ rfl rfl (by omega) hfit.out hrr hr3 hle.out).mono ?_); rintro e w5 ⟨a5, c5, rfl, hown5, hb5⟩; rw [hnew.out] at hown5; rw [hnew.out]))
      go_ret2
      exact ⟨a5, c5, by rw [← HTQ.out]; rfl, own_mono hown5 hb3.size, hb3.trans (hb5.mono hb3.size)⟩
end Go.Proofs.YtbnialhpflaoaaaDoor
