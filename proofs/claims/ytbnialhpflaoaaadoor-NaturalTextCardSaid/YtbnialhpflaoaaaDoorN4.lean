import Derived.Test.YtbnialhpflaoaaaDoorN3
namespace Go.Proofs.YtbnialhpflaoaaaDoor
open Go.RowKit
set_option linter.unusedVariables false
set_option linter.unusedSimpArgs false
/-- b binary digits. -/
def IsBl (n b : Nat) : Prop := n < 2 ^ b ∧ (n = 0 → b = 0) ∧ (0 < n → 0 < b ∧ 2 ^ (b - 1) ≤ n)
theorem isBl_uniq {n b c : Nat} (hb : IsBl n b) (hc : IsBl n c) : b = c := by
  have key : ∀ x y, IsBl n x → IsBl n y → ¬ x < y := by
    intro x y hx hy h
    rcases Nat.eq_zero_or_pos n with h0 | h0
    · have := hy.2.1 h0; omega
    · have h1 := (hy.2.2 h0).2
      have h2 := hx.1
      have h3 : 2 ^ x ≤ 2 ^ (y - 1) := Nat.pow_le_pow_right (by decide) (by omega)
      omega
  have := key b c hb hc
  have := key c b hc hb
  omega
theorem pw_two (k : Nat) : pw k = 2 ^ (32 * k) := by
  unfold pw
  rw [Nat.pow_mul]
/-- The top digit tells the number of binary digits. -/
theorem isBl_top (l : List (BitVec 32)) (h : 0 < l.length) (b : Nat) (hb : IsBl l[l.length - 1].toNat b) (hz : l[l.length - 1].toNat ≠ 0) : IsBl (valD l) (32 * (l.length - 1) + b) := by
  have h1 : valD l = valD (l.take (l.length - 1)) + pw (l.length - 1) * l[l.length - 1].toNat := by
    have := valD_take l (l.length - 1) (by omega)
    rwa [show l.length - 1 + 1 = l.length by omega, List.take_length] at this
  have h2 := valD_lt (l.take (l.length - 1))
  rw [List.length_take, Nat.min_eq_left (by omega)] at h2
  generalize l[l.length - 1].toNat = t at h1 hb hz
  generalize l.length - 1 = m at h1 h2
  have h3 : pw m * (t + 1) ≤ pw m * 2 ^ b := Nat.mul_le_mul_left _ hb.1
  have h4 := hb.2.2 (by omega)
  have h5 : pw m * 2 ^ (b - 1) ≤ pw m * t := Nat.mul_le_mul_left _ h4.2
  have e1 : pw m * 2 ^ b = 2 ^ (32 * m + b) := by rw [pw_two, Nat.pow_add]
  have e2 : pw m * 2 ^ (b - 1) = 2 ^ (32 * m + b - 1) := by rw [pw_two, ← Nat.pow_add]; congr 1; omega
  rw [Nat.mul_add] at h3
  rw [e1] at h3
  rw [e2] at h5
  have hp := pw_pos m
  refine ⟨by omega, fun h0 => ?_, fun _ => ⟨by omega, by omega⟩⟩
  have : pw m * t = 0 := by omega
  rcases Nat.mul_eq_zero.1 this with h | h
  · omega
  · exact absurd h hz
def BlRel (x b0 : Nat) (n t : Value) : Prop := ∃ j y m : Nat, j ≤ 32 ∧ m ≤ b0 + 32 ∧ n = .int .i64 (m : Int) ∧ t = .int .u32 (y : Int) ∧ y < 4294967296 ∧ Hid (m = b0 + j ∧ x / 2 ^ j = y ∧ (j = 0 ∨ 0 < x / 2 ^ (j - 1)))
set_option maxRecDepth 50000 in
set_option maxHeartbeats 1000000 in
theorem rbl_any (a : Option Addr) (n c : Nat) (l : List (BitVec 32)) (w : World) (hn : l.length = n) (hl : n ≤ 1000000) (hr : Rw w a l) :
    Calls Tryd.prog 24 #[.slice a n c] w fun e w' => ∃ b : Nat, e = .returned (.int .i64 b) ∧ IsBl (valD l) b ∧ b ≤ 32 * n ∧ Below w.heap.size w w' := by
  subst hn
  have htl := trim_len_le l
  rcases Nat.eq_zero_or_pos (trimD l).length with h0 | h0
  · have hv : valD l = 0 := by rw [← valD_trim, List.length_eq_zero_iff.1 h0]; rfl
    have HV := Lib.hid hv
    clear hv
    go_enter Tryd.func24, Tryd.ntmps24
    go_wp2_with (go_at_call 20; (with_reducible refine (norm_any _ _ _ l _ rfl (by omega) hr).mono ?_); rintro e w1 ⟨a1, c1, rfl, hown, hb⟩; rw [h0])
    go_ret
    exact ⟨0, rfl, by rw [HV.out]; exact ⟨by decide, fun _ => rfl, fun h => absurd h (by omega)⟩, by omega, hb⟩
  · have hlast : (trimD l)[(trimD l).length - 1].toNat ≠ 0 := by
      intro h
      have h1 := last_split (trimD l) h0
      have h2 : (trimD l)[(trimD l).length - 1] = 0#32 := BitVec.eq_of_toNat_eq (by simpa using h)
      rw [h2] at h1
      have h3 := trim_snoc0 ((trimD l).take ((trimD l).length - 1))
      rw [← h1, ← canon_val l, trim_canon] at h3
      have h4 := trim_len_le ((canon (valD l)).take ((canon (valD l)).length - 1))
      rw [← h3, List.length_take] at h4
      rw [← canon_val l] at h0
      omega
    obtain ⟨t, ht⟩ : ∃ t, trimD l = t := ⟨_, rfl⟩
    obtain ⟨x, hx⟩ : ∃ x, (trimD l)[(trimD l).length - 1].toNat = x := ⟨_, rfl⟩
    have hxl := (trimD l)[(trimD l).length - 1].isLt
    have htop := fun b hb => isBl_top (trimD l) h0 b hb hlast
    rw [valD_trim] at htop
    rw [hx] at hlast hxl
    have hget : Hid ((trimD l)[(trimD l).length - 1]? = some (BitVec.ofNat 32 x)) := by
      show _ = _
      rw [List.getElem?_eq_getElem (by omega), ← hx, BitVec.ofNat_toNat]; simp
    have hxx : (BitVec.ofNat 32 x).toNat = x := by rw [BitVec.toNat_ofNat]; omega
    have HT : Hid (∀ b, IsBl x b → IsBl (valD l) (32 * ((trimD l).length - 1) + b)) := by
      intro b hb
      exact htop b (by rw [hx]; exact hb)
    clear htop
    have HN := Lib.hid hlast
    have HX := Lib.hid hxx
    clear hlast hx ht hxx
    go_enter Tryd.func24, Tryd.ntmps24
    go_wp2_with (go_at_call 20; (with_reducible refine (norm_any _ _ _ l _ rfl (by omega) hr).mono ?_); rintro e w1 ⟨a1, c1, rfl, hown, hb⟩; obtain ⟨g, rfl, hg⟩ := own_form hown h0; have hc := own_cell hown ((trimD l).length - 1) (.int .u32 ((BitVec.ofNat 32 x).toNat : Int)) (by rw [bv32, List.getElem?_map, hget.out]; rfl); rw [HX.out] at hc)
    go_loop [4, 5] (fun n t => BlRel x (32 * ((trimD l).length - 1)) n t) (fun _ t => (intOf t).toNat)
    case atStart => exact ⟨0, x, _, by omega, by omega, by go_num, rfl, by omega, rfl, by simp, .inl rfl⟩
    case round =>
      obtain ⟨j, y, m, hj, hm, rfl, rfl, hy, hh⟩ := hrel
      have hb32 : 32 * ((trimD l).length - 1) + 32 ≤ 32000000 := by omega
      by_cases hz : 0 < y
      · have hj1 : j < 32 := by
          rcases Nat.lt_or_ge j 32 with h | h
          · exact h
          · have h1 : x < 2 ^ j := Nat.lt_of_lt_of_le hxl (Nat.pow_le_pow_right (by decide) h)
            have h2 := hh.out.2.1
            rw [Nat.div_eq_of_lt h1] at h2; omega
        have hm2 : m < 32 * ((trimD l).length - 1) + 32 := by have := hh.out.1; omega
        go_wp2
        go_round
        case rel =>
          refine ⟨j + 1, y / 2, m + 1, by omega, by omega, by go_num, by go_num, by omega, ?_, ?_, ?_⟩
          · have := hh.out.1; omega
          · rw [Nat.pow_succ, ← Nat.div_div_eq_div_mul, hh.out.2.1]
          · exact .inr (by rw [Nat.add_sub_cancel, hh.out.2.1]; exact hz)
        case measure => simp [intOf] <;> omega
      · go_wp2
        go_ret
        refine ⟨m, rfl, ?_, by omega, hb⟩
        rw [hh.out.1]
        apply HT.out
        have h1 := hh.out.2.1
        have h2 : x < 2 ^ j := by
          rcases Nat.lt_or_ge x (2 ^ j) with h | h
          · exact h
          · have := Nat.div_pos h (Nat.two_pow_pos j)
            omega
        refine ⟨h2, fun h => absurd h HN.out, fun _ => ?_⟩
        rcases hh.out.2.2 with h | h
        · subst h; have := HN.out; omega
        · refine ⟨?_, ?_⟩
          · rcases Nat.eq_zero_or_pos j with h3 | h3
            · subst h3; have := HN.out; simp at h2; omega
            · exact h3
          · rcases Nat.lt_or_ge x (2 ^ (j - 1)) with h3 | h3
            · rw [Nat.div_eq_of_lt h3] at h; omega
            · exact h3
end Go.Proofs.YtbnialhpflaoaaaDoor
