import Derived.Test.YtbplcgbfhijbcaaJ7
namespace Go.Proofs.Ytbplcgbfhijbcaa
open Go.RowKit
set_option linter.unusedVariables false
set_option linter.unusedSimpArgs false
/-- Both decoders answer alike, whatever the offset. -/
theorem uv_pair (a : Option Addr) (n c : Nat) (l : List (BitVec 8)) (at' : Int) (hn : l.length = n) (hc : n ≤ c) (hl : n ≤ 4611686018427387904) :
    ∃ v p e : Int, (∀ W, Rd W a l → Calls Try.prog 13 #[.slice a n c, .int .i64 at'] W fun e' W' => e' = tri v p e ∧ Below W.heap.size W W') ∧
      (∀ W, Rd W a l → Calls Try.prog 14 #[.slice a n c, .int .i64 at'] W fun e' W' => e' = tri v p e ∧ W = W') := by
  by_cases h : at' < 0 ∨ (n : Int) < at'
  · exact ⟨0, 0, 2, fun W _ => bu_out a n c at' W hl h, fun W _ => ru_out a n c at' W hl h⟩
  · obtain ⟨k, rfl⟩ := Int.eq_ofNat_of_zero_le (show 0 ≤ at' by omega)
    have hk : k ≤ n := by omega
    by_cases hu : uvE (l.drop k) = 0
    · exact ⟨_, _, 0, fun W hr => bu_ok a n c k l W hn hc hl hr hk hu, fun W hr => ru_ok a n c k l W hn hl hr hk hu⟩
    · exact ⟨0, 0, _, fun W hr => bu_bad a n c k l W hn hc hl hr hk hu, fun W hr => ru_bad a n c k l W hn hl hr hk hu⟩
theorem dv_pair (a : Option Addr) (n c : Nat) (l : List (BitVec 8)) (at' : Int) (hn : l.length = n) (hc : n ≤ c) (hl : n ≤ 4611686018427387904) :
    ∃ v p e : Int, (∀ W, Rd W a l → Calls Try.prog 19 #[.slice a n c, .int .i64 at'] W fun e' W' => e' = dri v p e ∧ Below W.heap.size W W') ∧
      (∀ W, Rd W a l → Calls Try.prog 20 #[.slice a n c, .int .i64 at'] W fun e' W' => e' = dri v p e ∧ W = W') := by
  by_cases h : at' < 0 ∨ (n : Int) < at'
  · exact ⟨0, 0, 2, fun W _ => bv_out a n c at' W hl h, fun W _ => rv_out a n c at' W hl h⟩
  · obtain ⟨k, rfl⟩ := Int.eq_ofNat_of_zero_le (show 0 ≤ at' by omega)
    have hk : k ≤ n := by omega
    by_cases hu : uvE (l.drop k) = 0
    · exact ⟨_, _, 0, fun W hr => bv_ok a n c k l W hn hc hl hr hk hu, fun W hr => rv_ok a n c k l W hn hl hr hk hu⟩
    · exact ⟨0, 0, _, fun W hr => bv_bad a n c k l W hn hc hl hr hk hu, fun W hr => rv_bad a n c k l W hn hl hr hk hu⟩
set_option maxRecDepth 50000 in
theorem luv_w (x : Nat) (a : Option Addr) (n c : Nat) (l : List (BitVec 8)) (at' : Int) (w : World) (hx : x < 18446744073709551616) (hn : l.length = n) (hc : n ≤ c) (hl : n ≤ 4611686018427387904) (hr : Rd w a l) :
    Calls Try.prog 3 #[.int .u64 x, .slice a n c, .int .i64 at'] w fun e w' => e = .returned (.bool true) ∧ Below w.heap.size w w' := by
  obtain ⟨v, p, q, h1, h2⟩ := uv_pair a n c l at' hn hc hl
  have H1 := Lib.hid h1
  have H2 := Lib.hid h2
  have HX := Lib.hid hx
  have hlu : (putU x).length ≤ 1000000000 := by have := putU_len10 hx; omega
  have HL := Lib.hid hlu
  clear h1 h2 hx hlu
  go_enter Try.func3, Try.ntmps3
  go_wp2_with (first
    | (go_at_call 13; go_loud ((with_reducible refine (H1.out _ hr).mono ?_); unfold tri; rintro e w1 ⟨rfl, hb1⟩; have hr1 := hr.below hb1))
    | (go_at_call 14; go_loud ((with_reducible refine (H2.out _ hr1).mono ?_); unfold tri; rintro e w2 ⟨rfl, rfl⟩))
    | (go_at_call 16; go_loud ((with_reducible refine (putu_any _ _ HX.out).mono ?_); rintro e w3 ⟨a3, c3, rfl, hc3, ho3, hb3⟩; have hbw3 := bel_step hb1 hb3))
    | (go_at_call 17; go_loud ((with_reducible refine (rputu_any _ _ HX.out).mono ?_); rintro e w4 ⟨a4, c4, rfl, hc4, ho4, hb4⟩; have hbw4 := bel_step hbw3 hb4; have hr3 := (Rd.of_own ho3).below hb4; have hr4 := Rd.of_own ho4))
    | (go_at_call 15; go_loud ((with_reducible refine (same8_yes _ _ _ _ _ _ _ _ _ rfl rfl HL.out hr3 hr4 rfl).mono ?_); rintro e w5 ⟨rfl, hb5⟩; have hbw5 := bel_step hbw4 hb5))
    | (go_at_call 18; go_loud ((with_reducible refine (ex_any _).mono ?_); rintro e w6 ⟨rfl, hb6⟩; have hbw6 := bel_step hbw5 hb6)))
  go_ret
  exact ⟨rfl, hbw6⟩
set_option maxRecDepth 50000 in
theorem ldv_w (x : Int) (a : Option Addr) (n c : Nat) (l : List (BitVec 8)) (at' : Int) (w : World) (h0 : -9223372036854775808 ≤ x) (h9 : x ≤ 9223372036854775807) (hn : l.length = n) (hc : n ≤ c) (hl : n ≤ 4611686018427387904) (hr : Rd w a l) :
    Calls Try.prog 4 #[.int .i64 x, .slice a n c, .int .i64 at'] w fun e w' => e = .returned (.bool true) ∧ Below w.heap.size w w' := by
  obtain ⟨v, p, q, h1, h2⟩ := dv_pair a n c l at' hn hc hl
  have H1 := Lib.hid h1
  have H2 := Lib.hid h2
  have hlu : (putU (zz x)).length ≤ 1000000000 := by have := putU_len10 (zz_lt h0 h9); omega
  have HL := Lib.hid hlu
  clear h1 h2 hlu
  go_enter Try.func4, Try.ntmps4
  go_wp2_with (first
    | (go_at_call 19; go_loud ((with_reducible refine (H1.out _ hr).mono ?_); unfold dri; rintro e w1 ⟨rfl, hb1⟩; have hr1 := hr.below hb1))
    | (go_at_call 20; go_loud ((with_reducible refine (H2.out _ hr1).mono ?_); unfold dri; rintro e w2 ⟨rfl, rfl⟩))
    | (go_at_call 21; go_loud ((with_reducible refine (pv_any _ _ h0 h9).mono ?_); rintro e w3 ⟨a3, c3, rfl, hc3, ho3, hb3⟩; have hbw3 := bel_step hb1 hb3))
    | (go_at_call 22; go_loud ((with_reducible refine (rpv_any _ _ h0 h9).mono ?_); rintro e w4 ⟨a4, c4, rfl, hc4, ho4, hb4⟩; have hbw4 := bel_step hbw3 hb4; have hr3 := (Rd.of_own ho3).below hb4; have hr4 := Rd.of_own ho4))
    | (go_at_call 15; go_loud ((with_reducible refine (same8_yes _ _ _ _ _ _ _ _ _ rfl rfl HL.out hr3 hr4 rfl).mono ?_); rintro e w5 ⟨rfl, hb5⟩; have hbw5 := bel_step hbw4 hb5))
    | (go_at_call 18; go_loud ((with_reducible refine (ex_any _).mono ?_); rintro e w6 ⟨rfl, hb6⟩; have hbw6 := bel_step hbw5 hb6)))
  go_ret
  exact ⟨rfl, hbw6⟩
end Go.Proofs.Ytbplcgbfhijbcaa
