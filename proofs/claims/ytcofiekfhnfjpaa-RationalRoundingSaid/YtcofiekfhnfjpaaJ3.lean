
import Derived.Test.YtcofiekfhnfjpaaJ2
import Derived.Test.YtcofiekfhnfjpaaUB
import Derived.BigQuiet
namespace Go.Proofs.Ytcofiekfhnfjpaa
open Go.RowKit
set_option linter.unusedVariables false
set_option linter.unusedSimpArgs false
attribute [local go_sem ↓] Go.wp_at_zero Go.wp_at_succ
/-- A normalized fraction is answered, in rows of its own. -/
def FrF (w : World) (x y : Int) (e : Ending) (w' : World) : Prop := ∃ a c b d, e = .returned (.agg #[.bool (decide (x < 0)), .slice a (canon x.natAbs).length c, .bool (decide (y < 0)), .slice b (canon y.natAbs).length d]) ∧
  w'.ownsRow w.heap.size 49 1 (.slice a (canon x.natAbs).length c) (canon x.natAbs).length (bv32 (canon x.natAbs)) ∧ w'.ownsRow w.heap.size 49 1 (.slice b (canon y.natAbs).length d) (canon y.natAbs).length (bv32 (canon y.natAbs)) ∧
  (∀ p q, a = some p → b = some q → p.block ≠ q.block) ∧ Below w.heap.size w w'
theorem gcd_mod (x y : Nat) : Nat.gcd y (x % y) = Nat.gcd x y := by
  rw [Nat.gcd_comm x y, Nat.gcd_rec y x, Nat.gcd_comm]
theorem own_blk {w : World} {base : Nat} {e : TypeId} {a : Option Addr} {n c : Nat} {xs : List Value} (h : w.ownsRow base e 1 (.slice a n c) n xs) (p : Addr) (hp : a = some p) : base ≤ p.block ∧ p.block < w.heap.size := by
  subst hp
  exact h.lt p.block rfl
theorem FrF.mk' {w w1 w2 : World} {x y : Int} {a b : Option Addr} {c d : Nat} {X Y : List (BitVec 32)} (hX : canon x.natAbs = X) (hY : canon y.natAbs = Y) {σ τ : Bool} (hσ : σ = decide (x < 0)) (hτ : τ = decide (y < 0))
    (ho1 : w1.ownsRow w.heap.size 49 1 (.slice a X.length c) X.length (bv32 X)) (hb1 : Below w.heap.size w w1)
    (ho2 : w2.ownsRow w1.heap.size 49 1 (.slice b Y.length d) Y.length (bv32 Y)) (hk : w2.ownsRow w.heap.size 49 1 (.slice a X.length c) X.length (bv32 X)) (hb2 : Below w.heap.size w w2) :
    FrF w x y (.returned (.agg #[.bool σ, .slice a X.length c, .bool τ, .slice b Y.length d])) w2 := by
  subst hX hY hσ hτ
  refine ⟨a, c, b, d, rfl, hk, own_mono ho2 hb1.size, ?_, hb2⟩
  intro p q hp hq e
  have h1 := own_blk ho1 p hp
  have h2 := own_blk ho2 q hq
  omega
theorem u64_quo (a b : Nat) (h : a / b < 18446744073709551616) : IntKind.u64.wrap ((a : Int) / (b : Int)) = ((a / b : Nat) : Int) := by
  rw [show (a : Int) / (b : Int) = ((a / b : Nat) : Int) by simp]
  generalize a / b = y at h ⊢
  unfold IntKind.wrap; simp [IntKind.signed, IntKind.bits]; omega
theorem u64_quo2 (a b : Nat) (ha : a < 18446744073709551616) (h : a / b < 18446744073709551616) : IntKind.u64.wrap ((IntKind.u64.wrap (a : Int)).tdiv (b : Int)) = ((a / b : Nat) : Int) := by
  rw [show IntKind.u64.wrap (a : Int) = (a : Int) by unfold IntKind.wrap; simp [IntKind.signed, IntKind.bits]; omega, Int.tdiv_eq_ediv_of_nonneg (by omega)]
  exact u64_quo a b h
theorem nfrom_at (n : Nat) (z : Int) (w : World) (hz : z = (n : Int)) (hn : n < 18446744073709551616) : Calls Try.prog 83 #[.int .u64 z] w (FrW w (canon n)) := by subst hz; exact nfrom_any n hn w
set_option maxRecDepth 50000 in
set_option maxHeartbeats 1000000 in
theorem store_any (x : Int) (y : Nat) (w : World) (h0 : -9223372036854775807 ≤ x) (h1 : x ≤ 9223372036854775807) (hy : y ≤ 9223372036854775807) (hy0 : 0 < y) :
    Calls Try.prog 64 #[.agg #[.int .i64 x, .int .i64 (y : Int)]] w (FrF w (zv (decide (x < 0)) (x.natAbs / Nat.gcd x.natAbs y)) ((y / Nat.gcd x.natAbs y : Nat) : Int)) := by
  obtain ⟨G, hG⟩ : ∃ G, Nat.gcd x.natAbs y = G := ⟨_, rfl⟩
  have hGp : 0 < G := by rw [← hG]; exact Nat.gcd_pos_of_pos_right _ hy0
  obtain ⟨X, hX⟩ : ∃ X, x.natAbs = X := ⟨_, rfl⟩
  have hXl : X ≤ 9223372036854775807 := by omega
  have hmg := Lib.hid (mag_any x w h0 h1)
  have HM : ∀ w, Calls Try.prog 98 #[.int .i64 x] w fun e w' => e = .returned (.int .u64 (X : Int)) ∧ w = w' := by intro w; rw [← hX]; exact mag_any x w h0 h1
  have HMH := Lib.hid HM
  rw [hX] at hG ⊢
  rw [hG]
  have HG := Lib.hid hG
  have hq1 : X / G ≤ X := Nat.div_le_self _ _
  have hq2 : y / G ≤ y := Nat.div_le_self _ _
  have HX := Lib.hid hX
  clear HM hmg hG hX
  have hb1 := Below.alloc (Below.refl w.heap.size w) (Nat.le_refl _) (.cells #[Value.int .i64 x, Value.int .i64 (y : Int)] 65)
  have hb2 := Below.alloc hb1 (by simp) (.cells #[Value.bool false, Value.slice none 0 0, Value.bool false, Value.slice none 0 0] 26)
  go_enter Try.func64, Try.ntmps64
  go_wp2_with (go_at_call 98; go_loud ((with_reducible refine (HMH.out _).mono ?_); rintro e w1 ⟨rfl, rfl⟩))
  go_quiet (fail)
  go_wp2
  go_loopw [4, 5] (fun g r wr => ∃ (p q : Nat), p ≤ 9223372036854775807 ∧ q ≤ 9223372036854775807 ∧ g = .int .u64 p ∧ r = .int .u64 q ∧ Hid (Nat.gcd p q = G) ∧ ∃ n, wr = World.drewN ((w.alloc (.cells #[Value.int .i64 x, Value.int .i64 y] 65)).alloc (.cells #[Value.bool false, Value.slice none 0 0, Value.bool false, Value.slice none 0 0] 26)) n) (fun _ r _ => (intOf r).toNat)
  case atStart => exact ⟨X, y, hXl, hy, rfl, rfl, HG.out, _, rfl⟩
  case round =>
    obtain ⟨p, q, hp, hq, rfl, rfl, hgc, n, rfl⟩ := hrel
    rcases Nat.eq_zero_or_pos q with hq0 | hq0
    · subst hq0
      obtain rfl : p = G := by have := hgc.out; rwa [Nat.gcd_zero_right] at this
      have hbd := below_drewN hb2 n
      have hzd := hbd.size
      have h3 : X / p < 18446744073709551616 := by omega
      have h4 : y / p < 18446744073709551616 := by omega
      have Q1 := Lib.hid (show IntKind.u64.wrap ((X : Int) / (p : Int)) = ((X / p : Nat) : Int) from u64_quo X p (by omega))
      have Q2 := Lib.hid (show IntKind.u64.wrap ((IntKind.u64.wrap (y : Int)).tdiv (p : Int)) = ((y / p : Nat) : Int) from u64_quo2 y p (by omega) (by omega))
      have HS3 := Lib.hid h3
      have HS4 := Lib.hid h4
      have f5 : ((p : Int) == 0) = false := by rw [beq_eq_false_iff_ne]; omega
      have f6 : ¬ (p : Int) = 0 := by omega
      have f7 : ¬ p = 0 := by omega
      clear hq1 hq2 h3 h4
      go_wp2
      go_region_held3 (fun w' => w'.cell? ⟨w.heap.size, 0, none⟩ = some (.int .i64 x) ∧ w'.cell? ⟨w.heap.size, 1, none⟩ = some (.int .i64 (y : Int))) (first | exact ⟨k2_p_0, k2_p_1⟩ | exact ⟨k1_p_0, k1_p_1⟩ | (refine ⟨?_, ?_⟩ <;> go_simp)) ((first
        | (go_at_call 83; (with_reducible refine (nfrom_at _ _ _ Q1.out HS3.out).mono ?_); rintro e w1 ⟨a1, c1, rfl, ho1, hc1⟩; have k1_p_0 : w1.cell? ⟨w.heap.size, 0, none⟩ = some (.int .i64 x) := bca hc1; have g1_p_0 : w1.frozen? ⟨w.heap.size, 0, none⟩ = false := bfa hc1 (v := .int .i64 x); have k1_p_1 : w1.cell? ⟨w.heap.size, 1, none⟩ = some (.int .i64 (y : Int)) := bca hc1; have g1_p_1 : w1.frozen? ⟨w.heap.size, 1, none⟩ = false := bfa hc1 (v := .int .i64 (y : Int)); have x1_p : ¬ w.heap.size = w1.heap.size := qne k1_p_0; have y1_p : ¬ w1.heap.size = w.heap.size := fun h => qne k1_p_0 h.symm; have q1_p : w.heap.size < w1.heap.size := qlt k1_p_0; have k1_r_0 : w1.cell? ⟨w.heap.size + 1, 0, none⟩ = some (.bool false) := bca hc1; have g1_r_0 : w1.frozen? ⟨w.heap.size + 1, 0, none⟩ = false := bfa hc1 (v := .bool false); have k1_r_1 : w1.cell? ⟨w.heap.size + 1, 1, none⟩ = some (.slice none 0 0) := bca hc1; have g1_r_1 : w1.frozen? ⟨w.heap.size + 1, 1, none⟩ = false := bfa hc1 (v := .slice none 0 0); have k1_r_2 : w1.cell? ⟨w.heap.size + 1, 2, none⟩ = some (.bool false) := bca hc1; have g1_r_2 : w1.frozen? ⟨w.heap.size + 1, 2, none⟩ = false := bfa hc1 (v := .bool false); have k1_r_3 : w1.cell? ⟨w.heap.size + 1, 3, none⟩ = some (.slice none 0 0) := bca hc1; have g1_r_3 : w1.frozen? ⟨w.heap.size + 1, 3, none⟩ = false := bfa hc1 (v := .slice none 0 0); have x1_r : ¬ w.heap.size + 1 = w1.heap.size := qne k1_r_0; have y1_r : ¬ w1.heap.size = w.heap.size + 1 := fun h => qne k1_r_0 h.symm; have q1_r : w.heap.size + 1 < w1.heap.size := qlt k1_r_0; have hbw1 := (below_drewN hb2 _).trans (hc1.mono hzd); have hz1 := hbw1.size)
        | (go_at_call 83; (with_reducible refine (nfrom_at _ _ _ Q2.out HS4.out).mono ?_); rintro e w2 ⟨a2, c2, rfl, ho2, hc2⟩; have k2_p_0 : w2.cell? ⟨w.heap.size, 0, none⟩ = some (.int .i64 x) := bca hc2; have g2_p_0 : w2.frozen? ⟨w.heap.size, 0, none⟩ = false := bfa hc2 (v := .int .i64 x); have k2_p_1 : w2.cell? ⟨w.heap.size, 1, none⟩ = some (.int .i64 (y : Int)) := bca hc2; have g2_p_1 : w2.frozen? ⟨w.heap.size, 1, none⟩ = false := bfa hc2 (v := .int .i64 (y : Int)); have x2_p : ¬ w.heap.size = w2.heap.size := qne k2_p_0; have y2_p : ¬ w2.heap.size = w.heap.size := fun h => qne k2_p_0 h.symm; have q2_p : w.heap.size < w2.heap.size := qlt k2_p_0; have k2_r_0 : w2.cell? ⟨w.heap.size + 1, 0, none⟩ = some (.bool false) := bca hc2; have g2_r_0 : w2.frozen? ⟨w.heap.size + 1, 0, none⟩ = false := bfa hc2 (v := .bool false); have k2_r_1 : w2.cell? ⟨w.heap.size + 1, 1, none⟩ = some (.slice none 0 0) := bca hc2; have g2_r_1 : w2.frozen? ⟨w.heap.size + 1, 1, none⟩ = false := bfa hc2 (v := .slice none 0 0); have k2_r_2 : w2.cell? ⟨w.heap.size + 1, 2, none⟩ = some (.bool false) := bca hc2; have g2_r_2 : w2.frozen? ⟨w.heap.size + 1, 2, none⟩ = false := bfa hc2 (v := .bool false); have k2_r_3 : w2.cell? ⟨w.heap.size + 1, 3, none⟩ = some (.slice none 0 0) := bca hc2; have g2_r_3 : w2.frozen? ⟨w.heap.size + 1, 3, none⟩ = false := bfa hc2 (v := .slice none 0 0); have x2_r : ¬ w.heap.size + 1 = w2.heap.size := qne k2_r_0; have y2_r : ¬ w2.heap.size = w.heap.size + 1 := fun h => qne k2_r_0 h.symm; have q2_r : w.heap.size + 1 < w2.heap.size := qlt k2_r_0; have hbw2 := hbw1.trans (hc2.mono hz1); have ho1b := own_below ho1 hc2)))
      go_wp2
      refine bodyPost_ret (v := .agg #[.bool (decide (x < 0)), .slice a1 (canon (X / p)).length c1, .bool false, .slice a2 (canon (y / p)).length c2]) (by simp [results, Try.results64, go_sem, *]) rfl ?_
      have hlt : w.heap.size + 1 < (((w.alloc (.cells #[Value.int .i64 x, Value.int .i64 (y : Int)] 65)).alloc (.cells #[Value.bool false, Value.slice none 0 0, Value.bool false, Value.slice none 0 0] 26)).drewN (n + 1)).heap.size := by simp
      have hdv : X / p * p = X := by
        have := Nat.gcd_dvd_left X y
        rw [HG.out] at this
        exact Nat.div_mul_cancel this
      refine FrF.mk' (by rw [zv_abs]) (show canon (Int.natAbs (Int.ofNat (y / p))) = canon (y / p) from rfl) ?_ (decide_eq_false (Int.not_lt.2 (Int.natCast_nonneg _))).symm (own_mono ho1 (by simp; omega)) hbw1 (own_set_other (own_set_other (own_set_other (own_set_other ho2 q1_r 0 _) q1_r 1 _) q1_r 2 _) q1_r 3 _) (own_mono (own_set_other (own_set_other (own_set_other (own_set_other ho1b hlt 0 _) hlt 1 _) hlt 2 _) hlt 3 _) (by simp; omega)) ((((hbw2.setCell (by simp) _).setCell (by simp) _).setCell (by simp) _).setCell (by simp) _)
      rw [zv_neg]
      rcases Int.lt_or_le x 0 with hx | hx
      · have h8 : 0 < X / p := by
          rcases Nat.eq_zero_or_pos (X / p) with h | h
          · rw [h] at hdv
            have := HX.out
            omega
          · exact h
        simp [hx, h8]
      · simp [show ¬ x < 0 by omega]
    · have f1 : ((q : Int) == 0) = false := by rw [beq_eq_false_iff_ne]; omega
      have f2 : ((q : Int) != 0) = true := by simp; omega
      have hm := Nat.mod_lt p hq0
      go_wp2
      go_quiet (fail)
      go_wp2
      go_roundw
      case rel => exact ⟨q, p % q, hq, by omega, rfl, by go_num, by show _ = _; rw [gcd_mod]; exact hgc.out, _, by rw [World.drewN_drewN]⟩
      case measure => (simp [intOf]; try omega)
end Go.Proofs.Ytcofiekfhnfjpaa
