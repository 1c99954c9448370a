import Derived.Test.YtdbocghkhcihjaaCrcNum
import Derived.Test.YtdbocghkhcihjaaRd
import Derived.Test.YtdbocghkhcihjaaBv
import Derived.WalkSpells
import Derived.WalkLawsBesides
import Derived.Lib.Hide
import Derived.Laws.BitsAllLaws
import Derived.Outline
namespace Go.Proofs.Ytdbocghkhcihjaa
open Go.RowKit
set_option linter.unusedVariables false
set_option linter.unusedSimpArgs false
theorem fnv_step (h : BitVec 64) (c : BitVec 8) : IntKind.u64.wrap (bits .xor .u64 (h.toNat : Int) (c.toNat : Int) * 1099511628211) = (((h ^^^ c.setWidth 64) * 1099511628211#64).toNat : Int) := by
  rw [w8_64, u64_xorB, show (1099511628211 : Int) = ((1099511628211#64 : BitVec 64).toNat : Int) by decide, u64_mulB]
theorem fnv_take (l : List (BitVec 8)) (k : Nat) (h : k < l.length) (s : BitVec 64) : fnvB s (l.take (k + 1)) = (fnvB s (l.take k) ^^^ l[k].setWidth 64) * 1099511628211#64 := by
  rw [List.take_succ_eq_append_getElem h, fnvB_append]; rfl
theorem reg_take (l : List (BitVec 8)) (k : Nat) (h : k < l.length) (s : BitVec 32) : regB s (l.take (k + 1)) = byteB (regB s (l.take k)) l[k] := by
  rw [List.take_succ_eq_append_getElem h, regB_append]; rfl
theorem fnv_any (a : Option Addr) (n c : Nat) (l : List (BitVec 8)) (w : World) (hn : l.length = n) (hl : l.length ≤ 140737488355328) (hr : Rd w a l) :
    Calls Try.prog 15 #[.slice a n c] w fun e w' => e = .returned (.int .u64 ((fnvB 14695981039346656037#64 l).toNat : Int)) ∧ w = w' := by
  subst hn
  go_enter Try.func15, Try.ntmps15
  go_wp2
  go_loop [3, 8] (fun h i => ∃ k : Nat, k ≤ l.length ∧ i = .int .i64 k ∧ h = .int .u64 ((fnvB 14695981039346656037#64 (l.take k)).toNat : Int)) (fun _ i => l.length - (intOf i).toNat)
  case atStart => exact ⟨0, Nat.zero_le _, rfl, by rfl⟩
  case round =>
    obtain ⟨k, hk, rfl, rfl⟩ := hrel
    by_cases hlt : k < l.length
    · obtain ⟨ad, rfl, hc⟩ := hr k hlt
      go_wp2
      go_round
      case rel => exact ⟨k + 1, by omega, by go_num, by rw [fnv_step, fnv_take _ _ hlt]⟩
      case measure => simp [intOf]; omega
    · go_wp2
      go_ret
      exact ⟨by rw [List.take_of_length_le (by omega)]; rfl, rfl⟩
theorem fnvr_any (a : Option Addr) (n c : Nat) (l : List (BitVec 8)) (w : World) (hn : l.length = n) (hl : l.length ≤ 140737488355328) (hr : Rd w a l) :
    Calls Try.prog 16 #[.slice a n c] w fun e w' => e = .returned (.int .u64 ((fnvB 14695981039346656037#64 l).toNat : Int)) ∧ w = w' := by
  subst hn
  go_enter Try.func16, Try.ntmps16
  go_wp2
  go_loop [3, 4] (fun h i => ∃ k : Nat, k ≤ l.length ∧ i = .int .i64 k ∧ h = .int .u64 ((fnvB 14695981039346656037#64 (l.take k)).toNat : Int)) (fun _ i => l.length - (intOf i).toNat)
  case atStart => exact ⟨0, Nat.zero_le _, rfl, by rfl⟩
  case round =>
    obtain ⟨k, hk, rfl, rfl⟩ := hrel
    by_cases hlt : k < l.length
    · obtain ⟨ad, rfl, hc⟩ := hr k hlt
      go_wp2
      go_round
      case rel => exact ⟨k + 1, by omega, by go_num, by rw [fnv_step, fnv_take _ _ hlt]⟩
      case measure => simp [intOf]; omega
    · go_wp2
      go_ret
      exact ⟨by rw [List.take_of_length_le (by omega)]; rfl, rfl⟩
theorem step_num (p : BitVec 32) : bits .xor .u32 ((p.toNat : Int) / 2) (bits .and .u32 3988292384 (-bits .and .u32 (p.toNat : Int) 1 % 4294967296)) = ((stepB p).toNat : Int) := by
  rw [show (1 : Int) = ((1#32 : BitVec 32).toNat : Int) by decide, u32_andB, u32_negB, show (3988292384 : Int) = ((0xedb88320#32 : BitVec 32).toNat : Int) by decide, u32_andB, u32_shr1, u32_xorB]
  rfl
theorem one_any (r : BitVec 32) (w : World) :
    Calls Try.prog 22 #[.int .u32 (r.toNat : Int)] w fun e w' => e = .returned (.int .u32 ((itB 8 r).toNat : Int)) ∧ w = w' := by
  go_enter Try.func22, Try.ntmps22
  go_wp2
  go_loop [0, 3] (fun h i => ∃ k : Nat, k ≤ 8 ∧ i = .int .i64 k ∧ h = .int .u32 ((itB k r).toNat : Int)) (fun _ i => 8 - (intOf i).toNat)
  case atStart => exact ⟨0, Nat.zero_le _, rfl, by rfl⟩
  case round =>
    obtain ⟨k, hk, rfl, rfl⟩ := hrel
    generalize hq : itB k r = q
    by_cases hlt : k < 8
    · by_cases hm : q.toNat % 2 = 1
      · have h1 : ((q.toNat : Int) % 2 == 1) = true := by simp; omega
        go_wp2
        go_round
        case rel => exact ⟨k + 1, by omega, by go_num, by rw [itB_succ, hq, stepB_odd _ hm, show (3988292384 : Int) = ((0xedb88320#32 : BitVec 32).toNat : Int) by decide, u32_shr1, u32_xorB]⟩
        case measure => simp [intOf]; omega
      · have h1 : ((q.toNat : Int) % 2 == 1) = false := by simp; omega
        go_wp2
        go_round
        case rel => exact ⟨k + 1, by omega, by go_num, by rw [itB_succ, hq, stepB_even _ hm, u32_shr1]⟩
        case measure => simp [intOf]; omega
    · go_wp2
      go_ret
      exact ⟨by rw [← hq, show k = 8 by omega]; rfl, rfl⟩
theorem ref_num (q : BitVec 32) (c : BitVec 8) : bits .xor .u32 (bits .and .u32 (q.toNat : Int) 255) (c.toNat : Int) = (((q &&& 0xff#32) ^^^ c.setWidth 32).toNat : Int) := by
  rw [show (255 : Int) = ((0xff#32 : BitVec 32).toNat : Int) by decide, u32_andB, w8_32, u32_xorB]
theorem updr_any (s : BitVec 32) (a : Option Addr) (n c : Nat) (l : List (BitVec 8)) (w : World) (hn : l.length = n) (hl : l.length ≤ 140737488355328) (hr : Rd w a l) :
    Calls Try.prog 14 #[.int .u32 (s.toNat : Int), .slice a n c] w fun e w' => e = .returned (.int .u32 ((updB s l).toNat : Int)) ∧ w = w' := by
  subst hn
  go_enter Try.func14, Try.ntmps14
  go_wp2
  go_loop [5, 6] (fun h i => ∃ k : Nat, k ≤ l.length ∧ i = .int .i64 k ∧ h = .int .u32 ((regB (~~~ s) (l.take k)).toNat : Int)) (fun _ i => l.length - (intOf i).toNat)
  case atStart => exact ⟨0, Nat.zero_le _, rfl, by rw [u32_not]; rfl⟩
  case round =>
    obtain ⟨k, hk, rfl, rfl⟩ := hrel
    by_cases hlt : k < l.length
    · obtain ⟨ad, rfl, hc⟩ := hr k hlt
      generalize hq : regB (~~~ s) (l.take k) = q
      have HQ := Lib.hid hq
      clear hq
      go_wp2_with (go_at_call 22; rw [ref_num]; refine (one_any _ _).mono ?_; rintro e w' ⟨rfl, rfl⟩)
      go_round
      case rel => exact ⟨k + 1, by omega, by go_num, by rw [reg_take _ _ hlt, HQ.out, byteB_ref, ← u32_xorB, BitVec.toNat_ushiftRight, Nat.shiftRight_eq_div_pow]; rfl⟩
      case measure => simp [intOf]; omega
    · go_wp2
      go_ret
      rw [List.take_of_length_le (by omega)]
      exact ⟨by simp only [u32_not]; rfl, rfl⟩
theorem upd_any (s : BitVec 32) (a : Option Addr) (n c : Nat) (l : List (BitVec 8)) (w : World) (hn : l.length = n) (hl : l.length ≤ 140737488355328) (hr : Rd w a l) :
    Calls Try.prog 13 #[.int .u32 (s.toNat : Int), .slice a n c] w fun e w' => e = .returned (.int .u32 ((updB s l).toNat : Int)) ∧ w = w' := by
  subst hn
  go_enter Try.func13, Try.ntmps13
  go_wp2
  go_loop [5, 13] (fun h i => ∃ k : Nat, k ≤ l.length ∧ i = .int .i64 k ∧ h = .int .u32 ((regB (~~~ s) (l.take k)).toNat : Int)) (fun _ i => l.length - (intOf i).toNat)
  case atStart => exact ⟨0, Nat.zero_le _, rfl, by rw [u32_not']; rfl⟩
  case round =>
    obtain ⟨k, hk, rfl, rfl⟩ := hrel
    generalize hq : regB (~~~ s) (l.take k) = q
    by_cases hlt : k < l.length
    · obtain ⟨ad, rfl, hc⟩ := hr k hlt
      go_wp2
      go_loop [5, 21] (fun h i => ∃ j : Nat, j ≤ 8 ∧ i = .int .i64 j ∧ h = .int .u32 ((itB j (q ^^^ l[k].setWidth 32)).toNat : Int)) (fun _ i => 8 - (intOf i).toNat)
      case atStart => exact ⟨0, by omega, rfl, by rw [w8_32, u32_xorB]; rfl⟩
      case round =>
        obtain ⟨j, hj, rfl, rfl⟩ := hrel
        generalize hp : itB j (q ^^^ l[k].setWidth 32) = p
        by_cases hlt2 : j < 8
        · go_wp2
          go_round
          case rel => exact ⟨j + 1, by omega, by go_num, by rw [step_num, itB_succ, hp]⟩
          case measure => simp [intOf]; omega
        · go_wp2
          go_round
          case rel => exact ⟨k + 1, by omega, by go_num, by rw [reg_take _ _ hlt, hq, ← hp, show j = 8 by omega]; rfl⟩
          case measure => simp [intOf]; omega
    · go_wp2
      go_ret
      rw [List.take_of_length_le (by omega)] at hq
      subst hq
      exact ⟨by simp only [u32_not']; rfl, rfl⟩
end Go.Proofs.Ytdbocghkhcihjaa
