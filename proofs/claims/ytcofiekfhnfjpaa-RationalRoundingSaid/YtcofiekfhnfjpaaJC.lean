
import Derived.Test.YtcofiekfhnfjpaaJB
namespace Go.Proofs.Ytcofiekfhnfjpaa
open Go.RowKit
set_option linter.unusedVariables false
set_option linter.unusedSimpArgs false
attribute [local go_sem ↓] Go.wp_at_zero Go.wp_at_succ
theorem sint_yes (s : Bool) (a b : Option Addr) (n c d : Nat) (l : List (BitVec 32)) (w : World) (hn : l.length = n) (hl : n ≤ 1000000) (hr : Rw w a l) (hs : Rw w b l) :
    Calls Try.prog 28 #[.agg #[.bool s, .slice a n c], .agg #[.bool s, .slice b n d]] w fun e w' => e = .returned (.bool true) ∧ Below w.heap.size w w' := by
  subst hn
  have hb1 := Below.alloc (Below.refl w.heap.size w) (Nat.le_refl _) (.cells #[Value.bool s, Value.slice a l.length c] 24)
  have hb2 := Below.alloc hb1 (by simp) (.cells #[Value.bool s, Value.slice b l.length d] 24)
  have hr2 := hr.below hb2
  have hs2 := hs.below hb2
  have ss : (s != s) = false := by cases s <;> rfl
  go_enter Try.func28, Try.ntmps28
  go_wp2
  go_loopw [5] (fun i wr => ∃ k : Nat, k ≤ l.length ∧ i = .int .i64 k ∧ ∃ n, wr = World.drewN ((w.alloc (.cells #[Value.bool s, Value.slice a l.length c] 24)).alloc (.cells #[Value.bool s, Value.slice b l.length d] 24)) n) (fun i _ => l.length - (intOf i).toNat)
  case atStart => exact ⟨0, Nat.zero_le _, rfl, 0, rfl⟩
  case round =>
    obtain ⟨k, hk, rfl, n, rfl⟩ := hrel
    by_cases hlt : k < l.length
    · obtain ⟨ad, rfl, hc⟩ := hr2 k hlt
      obtain ⟨bd, rfl, hd⟩ := hs2 k hlt
      obtain ⟨x, hx⟩ : ∃ x, l[k] = x := ⟨_, rfl⟩
      rw [hx] at hc hd
      clear hx
      go_wp2
      go_quiet (fail)
      go_wp2
      go_roundw
      case rel => exact ⟨k + 1, by omega, by go_num, _, rfl⟩
      case measure => (simp [intOf]; try omega)
    · go_wp2
      go_ret
      exact ⟨rfl, below_drewN hb2 _⟩
theorem srat_yes (s t : Bool) (a b a2 b2 : Option Addr) (c d c2 d2 : Nat) (l k : List (BitVec 32)) (w : World) (hl : l.length ≤ 1000000) (hl2 : k.length ≤ 1000000) (hr : Rw w a l) (hs : Rw w b k) (hr2 : Rw w a2 l) (hs2 : Rw w b2 k) :
    Calls Try.prog 14 #[.agg #[.bool s, .slice a l.length c, .bool t, .slice b k.length d], .agg #[.bool s, .slice a2 l.length c2, .bool t, .slice b2 k.length d2]] w fun e w' => e = .returned (.bool true) ∧ Below w.heap.size w w' := by
  have hN1 : ∀ W, Rw W a l → Rw W a2 l → Calls Try.prog 28 #[.agg #[.bool s, .slice a l.length c], .agg #[.bool s, .slice a2 l.length c2]] W fun e w' => e = .returned (.bool true) ∧ Below W.heap.size W w' := fun W h1 h2 => sint_yes s a a2 _ c c2 l W rfl hl h1 h2
  have hN2 : ∀ W, Rw W b k → Rw W b2 k → Calls Try.prog 28 #[.agg #[.bool t, .slice b k.length d], .agg #[.bool t, .slice b2 k.length d2]] W fun e w' => e = .returned (.bool true) ∧ Below W.heap.size W w' := fun W h1 h2 => sint_yes t b b2 _ d d2 k W rfl hl2 h1 h2
  have HN1 := Lib.hid hN1
  have HN2 := Lib.hid hN2
  clear hN1 hN2
  have hb1 := Below.alloc (Below.refl w.heap.size w) (Nat.le_refl _) (.cells #[Value.bool s, Value.slice a l.length c, Value.bool t, Value.slice b k.length d] 26)
  have hb2 := Below.alloc hb1 (by simp) (.cells #[Value.bool s, Value.slice a2 l.length c2, Value.bool t, Value.slice b2 k.length d2] 26)
  have hz2 := hb2.size
  have hra := hr.below hb2
  have hra2 := hr2.below hb2
  go_enter Try.func14, Try.ntmps14
  go_wp2_with (go_at_call 28; go_loud (first
    | ((with_reducible refine (HN2.out _ hs3 hs4).mono ?_); rintro e w4 ⟨rfl, hc4⟩; have hbw4 := hbw3.trans (hc4.mono hz3))
    | ((with_reducible refine (HN1.out _ hra hra2).mono ?_); rintro e w3 ⟨rfl, hc3⟩; have k3_p_0 : w3.cell? ⟨w.heap.size, 0, none⟩ = some (.bool s) := bca hc3; have g3_p_0 : w3.frozen? ⟨w.heap.size, 0, none⟩ = false := bfa hc3 (v := .bool s); have k3_p_1 : w3.cell? ⟨w.heap.size, 1, none⟩ = some (.slice a l.length c) := bca hc3; have g3_p_1 : w3.frozen? ⟨w.heap.size, 1, none⟩ = false := bfa hc3 (v := .slice a l.length c); have k3_p_2 : w3.cell? ⟨w.heap.size, 2, none⟩ = some (.bool t) := bca hc3; have g3_p_2 : w3.frozen? ⟨w.heap.size, 2, none⟩ = false := bfa hc3 (v := .bool t); have k3_p_3 : w3.cell? ⟨w.heap.size, 3, none⟩ = some (.slice b k.length d) := bca hc3; have g3_p_3 : w3.frozen? ⟨w.heap.size, 3, none⟩ = false := bfa hc3 (v := .slice b k.length d); have x3_p : ¬ w.heap.size = w3.heap.size := qne k3_p_0; have y3_p : ¬ w3.heap.size = w.heap.size := fun h => qne k3_p_0 h.symm; have q3_p : w.heap.size < w3.heap.size := qlt k3_p_0; have k3_q_0 : w3.cell? ⟨w.heap.size + 1, 0, none⟩ = some (.bool s) := bca hc3; have g3_q_0 : w3.frozen? ⟨w.heap.size + 1, 0, none⟩ = false := bfa hc3 (v := .bool s); have k3_q_1 : w3.cell? ⟨w.heap.size + 1, 1, none⟩ = some (.slice a2 l.length c2) := bca hc3; have g3_q_1 : w3.frozen? ⟨w.heap.size + 1, 1, none⟩ = false := bfa hc3 (v := .slice a2 l.length c2); have k3_q_2 : w3.cell? ⟨w.heap.size + 1, 2, none⟩ = some (.bool t) := bca hc3; have g3_q_2 : w3.frozen? ⟨w.heap.size + 1, 2, none⟩ = false := bfa hc3 (v := .bool t); have k3_q_3 : w3.cell? ⟨w.heap.size + 1, 3, none⟩ = some (.slice b2 k.length d2) := bca hc3; have g3_q_3 : w3.frozen? ⟨w.heap.size + 1, 3, none⟩ = false := bfa hc3 (v := .slice b2 k.length d2); have x3_q : ¬ w.heap.size + 1 = w3.heap.size := qne k3_q_0; have y3_q : ¬ w3.heap.size = w.heap.size + 1 := fun h => qne k3_q_0 h.symm; have q3_q : w.heap.size + 1 < w3.heap.size := qlt k3_q_0; have hbw3 := hb2.trans (hc3.mono hz2); have hz3 := hbw3.size; have hs3 := hs.below hbw3; have hs4 := hs2.below hbw3)))
  go_ret
  exact ⟨rfl, hbw4⟩
end Go.Proofs.Ytcofiekfhnfjpaa
