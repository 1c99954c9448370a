
import Derived.Test.YtcofiekfhnfjpaaDoorDA
import Derived.Test.YtcofiekfhnfjpaaDoorGl
import Derived.Deep.CutRange
namespace Go.Proofs.YtcofiekfhnfjpaaDoor
open Go.RowKit
set_option linter.unusedVariables false
set_option linter.unusedSimpArgs false
attribute [local go_sem ↓] Go.wp_at_zero Go.wp_at_succ
attribute [local go_sem] rhoF_tmp rhoF_const rhoF_global rhoF_func
attribute [local go_sem] iV
set_option maxRecDepth 50000 in
set_option maxHeartbeats 4000000 in
theorem dm_no (s t : Bool) (a b : Option Addr) (c d : Nat) (l k : List (BitVec 32)) (w : World) (hN : Tb w) (hfew : decide (∀ n ∈ [l.length, k.length], (n : Int) ≤ 40) = false) :
    Calls Tryd.prog 4 #[.agg #[.bool s, .slice a l.length c], .agg #[.bool t, .slice b k.length d]] w fun e w' => e = .returned (.bool true) ∧ Below w.heap.size w w' := by
  go_enter Tryd.func4, Tryd.ntmps4
  go_wp2_with (go_at_call 5; go_loud ((with_reducible refine (few_any (w.heap.size + 1 + 1) 2 2 [l.length, k.length] 40 _ rfl (by decide) (zholds_two s a c t b d (by go_simp) (by go_simp) (by go_simp) (by go_simp))).mono ?_); rintro e w1 ⟨rfl, hc1⟩; have E1 : Below w.heap.size w w1 := bel_step (by (with_reducible repeat' first | exact Below.refl _ _ | assumption | apply belA | apply Below.drew | apply below_drewN | refine belS ?_ (by first | omega | (simp; done) | (simp; omega)))) hc1; have P1_p : Bx w1 w.heap.size [.bool s, .slice a l.length c] := Bx.below (show Bx _ w.heap.size [.bool s, .slice a l.length c] from (by (with_reducible repeat' first | assumption | exact Bx.new _ _ _ | refine Bx.newAt _ _ _ (by simp; done) | apply Bx.dr | apply Bx.drN | apply Bx.al | refine Bx.st ?_ (by first | assumption | omega | (simp; done) | (simp; omega))))) hc1; have P1_q : Bx w1 (w.heap.size + 1) [.bool t, .slice b k.length d] := Bx.below (show Bx _ (w.heap.size + 1) [.bool t, .slice b k.length d] from (by (with_reducible repeat' first | assumption | exact Bx.new _ _ _ | refine Bx.newAt _ _ _ (by simp; done) | apply Bx.dr | apply Bx.drN | apply Bx.al | refine Bx.st ?_ (by first | assumption | omega | (simp; done) | (simp; omega))))) hc1; have hbw1 : Below w.heap.size w w1 := E1; have hz1 := hbw1.size; obtain ⟨⟨k1_p_0, g1_p_0⟩, ⟨k1_p_1, g1_p_1⟩, x1_p, y1_p, q1_p⟩ := id P1_p.x2; obtain ⟨⟨k1_q_0, g1_q_0⟩, ⟨k1_q_1, g1_q_1⟩, x1_q, y1_q, q1_q⟩ := id P1_q.x2; rw [hfew]; clear E1))
  go_wp2_with (go_at_call 6; go_loud ((with_reducible refine (example_any _ (hN.below (by (with_reducible repeat' first | exact Below.refl _ _ | assumption | apply belA | apply Below.drew | apply below_drewN | refine belS ?_ (by first | omega | (simp; done) | (simp; omega)))))).mono ?_); rintro e w2 ⟨rfl, hc2⟩; have E2 : Below w1.heap.size w1 w2 := bel_step (by (with_reducible repeat' first | exact Below.refl _ _ | assumption | apply belA | apply Below.drew | apply below_drewN | refine belS ?_ (by first | omega | (simp; done) | (simp; omega)))) hc2; have P2_p := P1_p.below E2; have P2_q := P1_q.below E2; have hbw2 : Below w.heap.size w w2 := bel_step hbw1 E2; have hz2 := hbw2.size; obtain ⟨⟨k2_p_0, g2_p_0⟩, ⟨k2_p_1, g2_p_1⟩, x2_p, y2_p, q2_p⟩ := id P2_p.x2; obtain ⟨⟨k2_q_0, g2_q_0⟩, ⟨k2_q_1, g2_q_1⟩, x2_q, y2_q, q2_q⟩ := id P2_q.x2; clear P1_p q1_p k1_p_0 g1_p_0 k1_p_1 g1_p_1 x1_p y1_p P1_q q1_q k1_q_0 g1_q_0 k1_q_1 g1_q_1 x1_q y1_q E2))
  go_ret
  exact ⟨rfl, by (with_reducible repeat' first | exact Below.refl _ _ | assumption | apply belA | apply Below.drew | apply below_drewN | refine belS ?_ (by first | omega | (simp; done) | (simp; omega)))⟩
set_option maxRecDepth 50000 in
set_option maxHeartbeats 4000000 in
theorem dm_zero (s t : Bool) (a b : Option Addr) (c d : Nat) (l k : List (BitVec 32)) (w : World) (ha : Rw w a l) (hb : Rw w b k) (hN : Tb w) (cap_a : l.length ≤ c) (cap_b : k.length ≤ d) (hfew : decide (∀ n ∈ [l.length, k.length], (n : Int) ≤ 40) = true)
    (hN0 : ∀ (W : World) (W0 : World) (v0 v1 : Option Addr) (n0 n1 : Nat), Below W0.heap.size W0 W → l.length ≤ n0 → k.length ≤ n1 → Rw W0 v0 l → Rw W0 v1 k → Calls Tryd.prog 20 #[.agg #[.bool s, .slice v0 l.length n0], .agg #[.bool t, .slice v1 k.length n1]] W fun e w' => e = .returned (.tuple #[.agg #[.bool false, .slice none 0 0], .agg #[.bool false, .slice none 0 0], .int .i64 9]) ∧ Below W.heap.size W w')
    (hN1 : ∀ (W : World) (W0 : World) (v0 v1 : Option Addr) (n0 n1 : Nat), Below W0.heap.size W0 W → l.length ≤ n0 → k.length ≤ n1 → Rw W0 v0 l → Rw W0 v1 k → Calls Tryd.prog 21 #[.agg #[.bool s, .slice v0 l.length n0], .agg #[.bool t, .slice v1 k.length n1]] W fun e w' => e = .returned (.tuple #[.agg #[.bool false, .slice none 0 0], .int .i64 9]) ∧ Below W.heap.size W w')
    (hN2 : ∀ (W : World) (W0 : World) (v0 : Option Addr) (n0 : Nat), Below W0.heap.size W0 W → k.length ≤ n0 → Rw W0 v0 k → Calls Tryd.prog 22 #[.agg #[.bool t, .slice v0 k.length n0]] W fun e w' => e = .returned (.int .i64 0) ∧ Below W.heap.size W w') :
    Calls Tryd.prog 4 #[.agg #[.bool s, .slice a l.length c], .agg #[.bool t, .slice b k.length d]] w fun e w' => e = .returned (.bool true) ∧ Below w.heap.size w w' := by
  have HN0 := Lib.hid hN0
  have HN1 := Lib.hid hN1
  have HN2 := Lib.hid hN2
  clear hN0 hN1 hN2
  go_enter Tryd.func4, Tryd.ntmps4
  go_wp2_with (go_at_call 5; go_loud ((with_reducible refine (few_any (w.heap.size + 1 + 1) 2 2 [l.length, k.length] 40 _ rfl (by decide) (zholds_two s a c t b d (by go_simp) (by go_simp) (by go_simp) (by go_simp))).mono ?_); rintro e w1 ⟨rfl, hc1⟩; have E1 : Below w.heap.size w w1 := bel_step (by (with_reducible repeat' first | exact Below.refl _ _ | assumption | apply belA | apply Below.drew | apply below_drewN | refine belS ?_ (by first | omega | (simp; done) | (simp; omega)))) hc1; have P1_p : Bx w1 w.heap.size [.bool s, .slice a l.length c] := Bx.below (show Bx _ w.heap.size [.bool s, .slice a l.length c] from (by (with_reducible repeat' first | assumption | exact Bx.new _ _ _ | refine Bx.newAt _ _ _ (by simp; done) | apply Bx.dr | apply Bx.drN | apply Bx.al | refine Bx.st ?_ (by first | assumption | omega | (simp; done) | (simp; omega))))) hc1; have P1_q : Bx w1 (w.heap.size + 1) [.bool t, .slice b k.length d] := Bx.below (show Bx _ (w.heap.size + 1) [.bool t, .slice b k.length d] from (by (with_reducible repeat' first | assumption | exact Bx.new _ _ _ | refine Bx.newAt _ _ _ (by simp; done) | apply Bx.dr | apply Bx.drN | apply Bx.al | refine Bx.st ?_ (by first | assumption | omega | (simp; done) | (simp; omega))))) hc1; have ha1 := ha.below E1; have hb1 := hb.below E1; have hbw1 : Below w.heap.size w w1 := E1; have hz1 := hbw1.size; obtain ⟨⟨k1_p_0, g1_p_0⟩, ⟨k1_p_1, g1_p_1⟩, x1_p, y1_p, q1_p⟩ := id P1_p.x2; obtain ⟨⟨k1_q_0, g1_q_0⟩, ⟨k1_q_1, g1_q_1⟩, x1_q, y1_q, q1_q⟩ := id P1_q.x2; rw [hfew]; clear E1))
  go_wp2_with (go_at_call 20; go_loud ((with_reducible refine (HN0.out _ _ _ _ _ _ (by (with_reducible repeat' first | exact Below.refl _ _ | assumption | apply belA | apply Below.drew | apply below_drewN | refine belS ?_ (by first | omega | (simp; done) | (simp; omega)))) cap_a cap_b ha1 hb1).mono ?_); rintro e w2 ⟨rfl, hc2⟩; have E2 : Below w1.heap.size w1 w2 := bel_step (by (with_reducible repeat' first | exact Below.refl _ _ | assumption | apply belA | apply Below.drew | apply below_drewN | refine belS ?_ (by first | omega | (simp; done) | (simp; omega)))) hc2; have P2_p := P1_p.below E2; have P2_q := P1_q.below E2; have ha2 := ha1.below E2; have hb2 := hb1.below E2; have hbw2 : Below w.heap.size w w2 := bel_step hbw1 E2; have hz2 := hbw2.size; obtain ⟨⟨k2_p_0, g2_p_0⟩, ⟨k2_p_1, g2_p_1⟩, x2_p, y2_p, q2_p⟩ := id P2_p.x2; obtain ⟨⟨k2_q_0, g2_q_0⟩, ⟨k2_q_1, g2_q_1⟩, x2_q, y2_q, q2_q⟩ := id P2_q.x2; clear P1_p q1_p k1_p_0 g1_p_0 k1_p_1 g1_p_1 x1_p y1_p P1_q q1_q k1_q_0 g1_q_0 k1_q_1 g1_q_1 x1_q y1_q ha1 hb1 E2))
  go_wp2_with (go_at_call 21; go_loud ((with_reducible refine (HN1.out _ _ _ _ _ _ (by (with_reducible repeat' first | exact Below.refl _ _ | assumption | apply belA | apply Below.drew | apply below_drewN | refine belS ?_ (by first | omega | (simp; done) | (simp; omega)))) cap_a cap_b ha2 hb2).mono ?_); rintro e w3 ⟨rfl, hc3⟩; have E3 : Below w2.heap.size w2 w3 := bel_step (by (with_reducible repeat' first | exact Below.refl _ _ | assumption | apply belA | apply Below.drew | apply below_drewN | refine belS ?_ (by first | omega | (simp; done) | (simp; omega)))) hc3; have P3_p := P2_p.below E3; have P3_q := P2_q.below E3; have P3_bq : Bx w3 w2.heap.size [.bool false, .slice none 0 0] := Bx.below (Bx.of2 (by first | with_reducible assumption | go_simp) (by first | with_reducible assumption | go_simp) (by first | with_reducible assumption | go_simp) (by first | with_reducible assumption | go_simp) : Bx _ w2.heap.size [.bool false, .slice none 0 0]) hc3; have P3_br : Bx w3 (w2.heap.size + 1) [.bool false, .slice none 0 0] := Bx.below (Bx.of2 (by first | with_reducible assumption | go_simp) (by first | with_reducible assumption | go_simp) (by first | with_reducible assumption | go_simp) (by first | with_reducible assumption | go_simp) : Bx _ (w2.heap.size + 1) [.bool false, .slice none 0 0]) hc3; have ha3 := ha2.below E3; have hb3 := hb2.below E3; have hbw3 : Below w.heap.size w w3 := bel_step hbw2 E3; have hz3 := hbw3.size; obtain ⟨⟨k3_p_0, g3_p_0⟩, ⟨k3_p_1, g3_p_1⟩, x3_p, y3_p, q3_p⟩ := id P3_p.x2; obtain ⟨⟨k3_q_0, g3_q_0⟩, ⟨k3_q_1, g3_q_1⟩, x3_q, y3_q, q3_q⟩ := id P3_q.x2; obtain ⟨⟨k3_bq_0, g3_bq_0⟩, ⟨k3_bq_1, g3_bq_1⟩, x3_bq, y3_bq, q3_bq⟩ := id P3_bq.x2; obtain ⟨⟨k3_br_0, g3_br_0⟩, ⟨k3_br_1, g3_br_1⟩, x3_br, y3_br, q3_br⟩ := id P3_br.x2; clear P2_p q2_p k2_p_0 g2_p_0 k2_p_1 g2_p_1 x2_p y2_p P2_q q2_q k2_q_0 g2_q_0 k2_q_1 g2_q_1 x2_q y2_q ha2 hb2 E3))
  go_wp2_with (go_at_call 22; go_loud ((with_reducible refine (HN2.out _ _ _ _ (by (with_reducible repeat' first | exact Below.refl _ _ | assumption | apply belA | apply Below.drew | apply below_drewN | refine belS ?_ (by first | omega | (simp; done) | (simp; omega)))) cap_b hb3).mono ?_); rintro e w4 ⟨rfl, hc4⟩; have E4 : Below w3.heap.size w3 w4 := bel_step (by (with_reducible repeat' first | exact Below.refl _ _ | assumption | apply belA | apply Below.drew | apply below_drewN | refine belS ?_ (by first | omega | (simp; done) | (simp; omega)))) hc4; have P4_p := P3_p.below E4; have P4_q := P3_q.below E4; have P4_bq := P3_bq.below E4; have P4_br := P3_br.below E4; have P4_bn : Bx w4 w3.heap.size [.bool false, .slice none 0 0] := Bx.below (Bx.of2 (by first | with_reducible assumption | go_simp) (by first | with_reducible assumption | go_simp) (by first | with_reducible assumption | go_simp) (by first | with_reducible assumption | go_simp) : Bx _ w3.heap.size [.bool false, .slice none 0 0]) hc4; have ha4 := ha3.below E4; have hb4 := hb3.below E4; have hbw4 : Below w.heap.size w w4 := bel_step hbw3 E4; have hz4 := hbw4.size; obtain ⟨⟨k4_p_0, g4_p_0⟩, ⟨k4_p_1, g4_p_1⟩, x4_p, y4_p, q4_p⟩ := id P4_p.x2; obtain ⟨⟨k4_q_0, g4_q_0⟩, ⟨k4_q_1, g4_q_1⟩, x4_q, y4_q, q4_q⟩ := id P4_q.x2; obtain ⟨⟨k4_bq_0, g4_bq_0⟩, ⟨k4_bq_1, g4_bq_1⟩, x4_bq, y4_bq, q4_bq⟩ := id P4_bq.x2; obtain ⟨⟨k4_br_0, g4_br_0⟩, ⟨k4_br_1, g4_br_1⟩, x4_br, y4_br, q4_br⟩ := id P4_br.x2; obtain ⟨⟨k4_bn_0, g4_bn_0⟩, ⟨k4_bn_1, g4_bn_1⟩, x4_bn, y4_bn, q4_bn⟩ := id P4_bn.x2; clear P3_p q3_p k3_p_0 g3_p_0 k3_p_1 g3_p_1 x3_p y3_p P3_q q3_q k3_q_0 g3_q_0 k3_q_1 g3_q_1 x3_q y3_q P3_bq q3_bq k3_bq_0 g3_bq_0 k3_bq_1 g3_bq_1 x3_bq y3_bq P3_br q3_br k3_br_0 g3_br_0 k3_br_1 g3_br_1 x3_br y3_br ha3 hb3 E4))
  go_wp2_with (go_at_call 18; go_loud ((with_reducible refine (zsame_0 _).mono ?_); rintro e w5 ⟨rfl, hc5⟩; have E5 : Below w4.heap.size w4 w5 := bel_step (by (with_reducible repeat' first | exact Below.refl _ _ | assumption | apply belA | apply Below.drew | apply below_drewN | refine belS ?_ (by first | omega | (simp; done) | (simp; omega)))) hc5; have P5_p := P4_p.below E5; have P5_q := P4_q.below E5; have P5_bq := P4_bq.below E5; have P5_br := P4_br.below E5; have P5_bn := P4_bn.below E5; have ha5 := ha4.below E5; have hb5 := hb4.below E5; have hbw5 : Below w.heap.size w w5 := bel_step hbw4 E5; have hz5 := hbw5.size; obtain ⟨⟨k5_p_0, g5_p_0⟩, ⟨k5_p_1, g5_p_1⟩, x5_p, y5_p, q5_p⟩ := id P5_p.x2; obtain ⟨⟨k5_q_0, g5_q_0⟩, ⟨k5_q_1, g5_q_1⟩, x5_q, y5_q, q5_q⟩ := id P5_q.x2; obtain ⟨⟨k5_bq_0, g5_bq_0⟩, ⟨k5_bq_1, g5_bq_1⟩, x5_bq, y5_bq, q5_bq⟩ := id P5_bq.x2; obtain ⟨⟨k5_br_0, g5_br_0⟩, ⟨k5_br_1, g5_br_1⟩, x5_br, y5_br, q5_br⟩ := id P5_br.x2; obtain ⟨⟨k5_bn_0, g5_bn_0⟩, ⟨k5_bn_1, g5_bn_1⟩, x5_bn, y5_bn, q5_bn⟩ := id P5_bn.x2; clear P4_p q4_p k4_p_0 g4_p_0 k4_p_1 g4_p_1 x4_p y4_p P4_q q4_q k4_q_0 g4_q_0 k4_q_1 g4_q_1 x4_q y4_q P4_bq q4_bq k4_bq_0 g4_bq_0 k4_bq_1 g4_bq_1 x4_bq y4_bq P4_br q4_br k4_br_0 g4_br_0 k4_br_1 g4_br_1 x4_br y4_br P4_bn q4_bn k4_bn_0 g4_bn_0 k4_bn_1 g4_bn_1 x4_bn y4_bn ha4 hb4 E5))
  go_wp2_with (go_at_call 18; go_loud ((with_reducible refine (zsame_0 _).mono ?_); rintro e w6 ⟨rfl, hc6⟩; have E6 : Below w5.heap.size w5 w6 := bel_step (by (with_reducible repeat' first | exact Below.refl _ _ | assumption | apply belA | apply Below.drew | apply below_drewN | refine belS ?_ (by first | omega | (simp; done) | (simp; omega)))) hc6; have P6_p := P5_p.below E6; have P6_q := P5_q.below E6; have P6_bq := P5_bq.below E6; have P6_br := P5_br.below E6; have P6_bn := P5_bn.below E6; have ha6 := ha5.below E6; have hb6 := hb5.below E6; have hbw6 : Below w.heap.size w w6 := bel_step hbw5 E6; have hz6 := hbw6.size; obtain ⟨⟨k6_p_0, g6_p_0⟩, ⟨k6_p_1, g6_p_1⟩, x6_p, y6_p, q6_p⟩ := id P6_p.x2; obtain ⟨⟨k6_q_0, g6_q_0⟩, ⟨k6_q_1, g6_q_1⟩, x6_q, y6_q, q6_q⟩ := id P6_q.x2; obtain ⟨⟨k6_bq_0, g6_bq_0⟩, ⟨k6_bq_1, g6_bq_1⟩, x6_bq, y6_bq, q6_bq⟩ := id P6_bq.x2; obtain ⟨⟨k6_br_0, g6_br_0⟩, ⟨k6_br_1, g6_br_1⟩, x6_br, y6_br, q6_br⟩ := id P6_br.x2; obtain ⟨⟨k6_bn_0, g6_bn_0⟩, ⟨k6_bn_1, g6_bn_1⟩, x6_bn, y6_bn, q6_bn⟩ := id P6_bn.x2; clear P5_p q5_p k5_p_0 g5_p_0 k5_p_1 g5_p_1 x5_p y5_p P5_q q5_q k5_q_0 g5_q_0 k5_q_1 g5_q_1 x5_q y5_q P5_bq q5_bq k5_bq_0 g5_bq_0 k5_bq_1 g5_bq_1 x5_bq y5_bq P5_br q5_br k5_br_0 g5_br_0 k5_br_1 g5_br_1 x5_br y5_br P5_bn q5_bn k5_bn_0 g5_bn_0 k5_bn_1 g5_bn_1 x5_bn y5_bn ha5 hb5 E6))
  go_wp2_with (go_at_call 18; go_loud ((with_reducible refine (zsame_0 _).mono ?_); rintro e w7 ⟨rfl, hc7⟩; have E7 : Below w6.heap.size w6 w7 := bel_step (by (with_reducible repeat' first | exact Below.refl _ _ | assumption | apply belA | apply Below.drew | apply below_drewN | refine belS ?_ (by first | omega | (simp; done) | (simp; omega)))) hc7; have P7_p := P6_p.below E7; have P7_q := P6_q.below E7; have P7_bq := P6_bq.below E7; have P7_br := P6_br.below E7; have P7_bn := P6_bn.below E7; have ha7 := ha6.below E7; have hb7 := hb6.below E7; have hbw7 : Below w.heap.size w w7 := bel_step hbw6 E7; have hz7 := hbw7.size; obtain ⟨⟨k7_p_0, g7_p_0⟩, ⟨k7_p_1, g7_p_1⟩, x7_p, y7_p, q7_p⟩ := id P7_p.x2; obtain ⟨⟨k7_q_0, g7_q_0⟩, ⟨k7_q_1, g7_q_1⟩, x7_q, y7_q, q7_q⟩ := id P7_q.x2; obtain ⟨⟨k7_bq_0, g7_bq_0⟩, ⟨k7_bq_1, g7_bq_1⟩, x7_bq, y7_bq, q7_bq⟩ := id P7_bq.x2; obtain ⟨⟨k7_br_0, g7_br_0⟩, ⟨k7_br_1, g7_br_1⟩, x7_br, y7_br, q7_br⟩ := id P7_br.x2; obtain ⟨⟨k7_bn_0, g7_bn_0⟩, ⟨k7_bn_1, g7_bn_1⟩, x7_bn, y7_bn, q7_bn⟩ := id P7_bn.x2; clear P6_p q6_p k6_p_0 g6_p_0 k6_p_1 g6_p_1 x6_p y6_p P6_q q6_q k6_q_0 g6_q_0 k6_q_1 g6_q_1 x6_q y6_q P6_bq q6_bq k6_bq_0 g6_bq_0 k6_bq_1 g6_bq_1 x6_bq y6_bq P6_br q6_br k6_br_0 g6_br_0 k6_br_1 g6_br_1 x6_br y6_br P6_bn q6_bn k6_bn_0 g6_bn_0 k6_bn_1 g6_bn_1 x6_bn y6_bn ha6 hb6 E7))
  go_wp2_with (go_at_call 6; go_loud ((with_reducible refine (example_any _ (hN.below (by (with_reducible repeat' first | exact Below.refl _ _ | assumption | apply belA | apply Below.drew | apply below_drewN | refine belS ?_ (by first | omega | (simp; done) | (simp; omega)))))).mono ?_); rintro e w8 ⟨rfl, hc8⟩; have E8 : Below w7.heap.size w7 w8 := bel_step (by (with_reducible repeat' first | exact Below.refl _ _ | assumption | apply belA | apply Below.drew | apply below_drewN | refine belS ?_ (by first | omega | (simp; done) | (simp; omega)))) hc8; have P8_p := P7_p.below E8; have P8_q := P7_q.below E8; have P8_bq := P7_bq.below E8; have P8_br := P7_br.below E8; have P8_bn := P7_bn.below E8; have ha8 := ha7.below E8; have hb8 := hb7.below E8; have hbw8 : Below w.heap.size w w8 := bel_step hbw7 E8; have hz8 := hbw8.size; obtain ⟨⟨k8_p_0, g8_p_0⟩, ⟨k8_p_1, g8_p_1⟩, x8_p, y8_p, q8_p⟩ := id P8_p.x2; obtain ⟨⟨k8_q_0, g8_q_0⟩, ⟨k8_q_1, g8_q_1⟩, x8_q, y8_q, q8_q⟩ := id P8_q.x2; obtain ⟨⟨k8_bq_0, g8_bq_0⟩, ⟨k8_bq_1, g8_bq_1⟩, x8_bq, y8_bq, q8_bq⟩ := id P8_bq.x2; obtain ⟨⟨k8_br_0, g8_br_0⟩, ⟨k8_br_1, g8_br_1⟩, x8_br, y8_br, q8_br⟩ := id P8_br.x2; obtain ⟨⟨k8_bn_0, g8_bn_0⟩, ⟨k8_bn_1, g8_bn_1⟩, x8_bn, y8_bn, q8_bn⟩ := id P8_bn.x2; clear P7_p q7_p k7_p_0 g7_p_0 k7_p_1 g7_p_1 x7_p y7_p P7_q q7_q k7_q_0 g7_q_0 k7_q_1 g7_q_1 x7_q y7_q P7_bq q7_bq k7_bq_0 g7_bq_0 k7_bq_1 g7_bq_1 x7_bq y7_bq P7_br q7_br k7_br_0 g7_br_0 k7_br_1 g7_br_1 x7_br y7_br P7_bn q7_bn k7_bn_0 g7_bn_0 k7_bn_1 g7_bn_1 x7_bn y7_bn ha7 hb7 E8))
  go_ret
  exact ⟨rfl, by (with_reducible repeat' first | exact Below.refl _ _ | assumption | apply belA | apply Below.drew | apply below_drewN | refine belS ?_ (by first | omega | (simp; done) | (simp; omega)))⟩
set_option maxRecDepth 50000 in
set_option maxHeartbeats 8000000 in
theorem dm_w (s t : Bool) (a b : Option Addr) (c d : Nat) (l k : List (BitVec 32)) (w : World) (ha : Rw w a l) (hb : Rw w b k) (hN : Tb w) (cap_a : l.length ≤ c) (cap_b : k.length ≤ d) (hfew : decide (∀ n ∈ [l.length, k.length], (n : Int) ≤ 40) = true) (sQ sM sV sA sU sE sB sP sD sO sT sNA sNB sF sG : Bool) (ZQ ZM ZV ZA ZU ZE ZB ZP ZD ZO ZT ZNA ZNB ZF ZG : List (BitVec 32)) (sg sm z z6 : Int) (f0 : (sg == 0) = false) (f1 : (sm != 0) = false ∨ ((sm != 0) = true ∧ sg = sm)) (f2 : z = -1 ∨ (z = 0 ∧ decide (z6 > 0) = true))
    (hN0 : ∀ (W : World) (W0 : World) (v0 v1 : Option Addr) (n0 n1 : Nat), Below W0.heap.size W0 W → l.length ≤ n0 → k.length ≤ n1 → Rw W0 v0 l → Rw W0 v1 k → Calls Tryd.prog 20 #[.agg #[.bool s, .slice v0 l.length n0], .agg #[.bool t, .slice v1 k.length n1]] W (AnsR (fun γ => .tuple #[.agg #[.bool sQ, .slice (γ 0).1 ZQ.length (γ 0).2], .agg #[.bool sM, .slice (γ 1).1 ZM.length (γ 1).2], .int .i64 0]) (RwsP [ZQ, ZM]) W))
    (hN1 : ∀ (W : World) (W0 : World) (v0 v1 : Option Addr) (n0 n1 : Nat), Below W0.heap.size W0 W → l.length ≤ n0 → k.length ≤ n1 → Rw W0 v0 l → Rw W0 v1 k → Calls Tryd.prog 21 #[.agg #[.bool s, .slice v0 l.length n0], .agg #[.bool t, .slice v1 k.length n1]] W (AnsR (fun γ => .tuple #[.agg #[.bool sV, .slice (γ 0).1 ZV.length (γ 0).2], .int .i64 0]) (RwsP [ZV]) W))
    (hN2 : ∀ (W : World) (W0 : World) (v0 : Option Addr) (n0 : Nat), Below W0.heap.size W0 W → k.length ≤ n0 → Rw W0 v0 k → Calls Tryd.prog 22 #[.agg #[.bool t, .slice v0 k.length n0]] W fun e w' => e = .returned (.int .i64 sg) ∧ Below W.heap.size W w')
    (hN3 : ∀ (W : World) (W0 : World) (v0 v1 : Option Addr) (n0 n1 : Nat), Below W0.heap.size W0 W → ZQ.length ≤ n0 → k.length ≤ n1 → Rw W0 v0 ZQ → Rw W0 v1 k → Calls Tryd.prog 13 #[.agg #[.bool sQ, .slice v0 ZQ.length n0], .agg #[.bool t, .slice v1 k.length n1]] W (AnsR (iV sA ZA) (RwsP [ZA]) W))
    (hN4 : ∀ (W : World) (W0 : World) (v0 v1 : Option Addr) (n0 n1 : Nat), Below W0.heap.size W0 W → ZA.length ≤ n0 → ZM.length ≤ n1 → Rw W0 v0 ZA → Rw W0 v1 ZM → Calls Tryd.prog 11 #[.agg #[.bool sA, .slice v0 ZA.length n0], .agg #[.bool sM, .slice v1 ZM.length n1]] W (AnsR (iV sU ZU) (RwsP [ZU]) W))
    (hN5 : ∀ (W : World) (W0 : World) (v0 v1 : Option Addr) (n0 n1 : Nat), Below W0.heap.size W0 W → ZU.length ≤ n0 → l.length ≤ n1 → Rw W0 v0 ZU → Rw W0 v1 l → Calls Tryd.prog 8 #[.agg #[.bool sU, .slice v0 ZU.length n0], .agg #[.bool s, .slice v1 l.length n1]] W fun e w' => e = .returned (.int .i64 0) ∧ Below W.heap.size W w')
    (hN6 : ∀ (W : World) (W0 : World) (v0 : Option Addr) (n0 : Nat), Below W0.heap.size W0 W → ZM.length ≤ n0 → Rw W0 v0 ZM → Calls Tryd.prog 23 #[.agg #[.bool sM, .slice v0 ZM.length n0]] W (AnsR (iV sE ZE) (RwsP [ZE]) W))
    (hN7 : ∀ (W : World) (W0 : World) (v0 : Option Addr) (n0 : Nat), Below W0.heap.size W0 W → k.length ≤ n0 → Rw W0 v0 k → Calls Tryd.prog 23 #[.agg #[.bool t, .slice v0 k.length n0]] W (AnsR (iV sB ZB) (RwsP [ZB]) W))
    (hN8 : ∀ (W : World) (W0 : World) (v0 v1 : Option Addr) (n0 n1 : Nat), Below W0.heap.size W0 W → ZE.length ≤ n0 → ZB.length ≤ n1 → Rw W0 v0 ZE → Rw W0 v1 ZB → Calls Tryd.prog 8 #[.agg #[.bool sE, .slice v0 ZE.length n0], .agg #[.bool sB, .slice v1 ZB.length n1]] W fun e w' => e = .returned (.int .i64 (-1)) ∧ Below W.heap.size W w')
    (hN9 : ∀ (W : World) (W0 : World) (v0 : Option Addr) (n0 : Nat), Below W0.heap.size W0 W → ZM.length ≤ n0 → Rw W0 v0 ZM → Calls Tryd.prog 22 #[.agg #[.bool sM, .slice v0 ZM.length n0]] W fun e w' => e = .returned (.int .i64 sm) ∧ Below W.heap.size W w')
    (hN10 : ∀ (W : World) (W0 : World) (v0 v1 : Option Addr) (n0 n1 : Nat), Below W0.heap.size W0 W → ZV.length ≤ n0 → k.length ≤ n1 → Rw W0 v0 ZV → Rw W0 v1 k → Calls Tryd.prog 13 #[.agg #[.bool sV, .slice v0 ZV.length n0], .agg #[.bool t, .slice v1 k.length n1]] W (AnsR (iV sP ZP) (RwsP [ZP]) W))
    (hN11 : ∀ (W : World) (W0 : World) (v0 v1 : Option Addr) (n0 n1 : Nat), Below W0.heap.size W0 W → l.length ≤ n0 → ZP.length ≤ n1 → Rw W0 v0 l → Rw W0 v1 ZP → Calls Tryd.prog 12 #[.agg #[.bool s, .slice v0 l.length n0], .agg #[.bool sP, .slice v1 ZP.length n1]] W (AnsR (iV sD ZD) (RwsP [ZD]) W))
    (hN12 : ∀ (W : World) (W0 : World) (v0 : Option Addr) (n0 : Nat), Below W0.heap.size W0 W → ZD.length ≤ n0 → Rw W0 v0 ZD → Calls Tryd.prog 23 #[.agg #[.bool sD, .slice v0 ZD.length n0]] W (AnsR (iV sO ZO) (RwsP [ZO]) W))
    (hN13 : ∀ (W : World) (W0 : World) (v0 v1 : Option Addr) (n0 n1 : Nat), Below W0.heap.size W0 W → ZO.length ≤ n0 → ZO.length ≤ n1 → Rw W0 v0 ZO → Rw W0 v1 ZO → Calls Tryd.prog 11 #[.agg #[.bool sO, .slice v0 ZO.length n0], .agg #[.bool sO, .slice v1 ZO.length n1]] W (AnsR (iV sT ZT) (RwsP [ZT]) W))
    (hN14 : ∀ (W : World) (W0 : World) (v0 v1 : Option Addr) (n0 n1 : Nat), Below W0.heap.size W0 W → ZT.length ≤ n0 → ZB.length ≤ n1 → Rw W0 v0 ZT → Rw W0 v1 ZB → Calls Tryd.prog 8 #[.agg #[.bool sT, .slice v0 ZT.length n0], .agg #[.bool sB, .slice v1 ZB.length n1]] W fun e w' => e = .returned (.int .i64 z) ∧ Below W.heap.size W w')
    (hN15 : ∀ (W : World) (W0 : World) (v0 v1 : Option Addr) (n0 n1 : Nat), Below W0.heap.size W0 W → ZNA.length ≤ n0 → ZNB.length ≤ n1 → Rw W0 v0 ZNA → Rw W0 v1 ZNB → Calls Tryd.prog 21 #[.agg #[.bool sNA, .slice v0 ZNA.length n0], .agg #[.bool sNB, .slice v1 ZNB.length n1]] W (AnsR (fun γ => .tuple #[.agg #[.bool sV, .slice (γ 0).1 ZV.length (γ 0).2], .int .i64 0]) (RwsP [ZV]) W))
    (hN16 : ∀ (W : World) (W0 : World) (v0 : Option Addr) (n0 : Nat), Below W0.heap.size W0 W → l.length ≤ n0 → Rw W0 v0 l → Calls Tryd.prog 10 #[.agg #[.bool s, .slice v0 l.length n0]] W (AnsR (iV sNA ZNA) (RwsP [ZNA]) W))
    (hN17 : ∀ (W : World) (W0 : World) (v0 : Option Addr) (n0 : Nat), Below W0.heap.size W0 W → k.length ≤ n0 → Rw W0 v0 k → Calls Tryd.prog 10 #[.agg #[.bool t, .slice v0 k.length n0]] W (AnsR (iV sNB ZNB) (RwsP [ZNB]) W))
    (hN18 : ∀ (W : World) (W0 : World) (v0 v1 : Option Addr) (n0 n1 : Nat), Below W0.heap.size W0 W → Rw W0 v0 ZV → Rw W0 v1 ZV → Calls Tryd.prog 18 #[.agg #[.bool sV, .slice v0 ZV.length n0], .agg #[.bool sV, .slice v1 ZV.length n1]] W fun e w' => e = .returned (.bool true) ∧ Below W.heap.size W w')
    (hN19 : ∀ (W : World) (W0 : World) (v0 : Option Addr) (n0 : Nat), Below W0.heap.size W0 W → ZP.length ≤ n0 → Rw W0 v0 ZP → Calls Tryd.prog 23 #[.agg #[.bool sP, .slice v0 ZP.length n0]] W (AnsR (iV sF ZF) (RwsP [ZF]) W))
    (hN20 : ∀ (W : World) (W0 : World) (v0 : Option Addr) (n0 : Nat), Below W0.heap.size W0 W → l.length ≤ n0 → Rw W0 v0 l → Calls Tryd.prog 23 #[.agg #[.bool s, .slice v0 l.length n0]] W (AnsR (iV sG ZG) (RwsP [ZG]) W))
    (hN21 : ∀ (W : World) (W0 : World) (v0 v1 : Option Addr) (n0 n1 : Nat), Below W0.heap.size W0 W → ZF.length ≤ n0 → ZG.length ≤ n1 → Rw W0 v0 ZF → Rw W0 v1 ZG → Calls Tryd.prog 8 #[.agg #[.bool sF, .slice v0 ZF.length n0], .agg #[.bool sG, .slice v1 ZG.length n1]] W fun e w' => e = .returned (.int .i64 z6) ∧ Below W.heap.size W w') :
    Calls Tryd.prog 4 #[.agg #[.bool s, .slice a l.length c], .agg #[.bool t, .slice b k.length d]] w fun e w' => e = .returned (.bool true) ∧ Below w.heap.size w w' := by
  have F1 := Lib.hid f1
  have F2 := Lib.hid f2
  clear f1 f2
  have HN0 := Lib.hid hN0
  have HN1 := Lib.hid hN1
  have HN2 := Lib.hid hN2
  have HN3 := Lib.hid hN3
  have HN4 := Lib.hid hN4
  have HN5 := Lib.hid hN5
  have HN6 := Lib.hid hN6
  have HN7 := Lib.hid hN7
  have HN8 := Lib.hid hN8
  have HN9 := Lib.hid hN9
  have HN10 := Lib.hid hN10
  have HN11 := Lib.hid hN11
  have HN12 := Lib.hid hN12
  have HN13 := Lib.hid hN13
  have HN14 := Lib.hid hN14
  have HN15 := Lib.hid hN15
  have HN16 := Lib.hid hN16
  have HN17 := Lib.hid hN17
  have HN18 := Lib.hid hN18
  have HN19 := Lib.hid hN19
  have HN20 := Lib.hid hN20
  have HN21 := Lib.hid hN21
  clear hN0 hN1 hN2 hN3 hN4 hN5 hN6 hN7 hN8 hN9 hN10 hN11 hN12 hN13 hN14 hN15 hN16 hN17 hN18 hN19 hN20 hN21
  go_enter Tryd.func4, Tryd.ntmps4
  go_wp2_with (go_at_call 5; go_loud ((with_reducible refine (few_any (w.heap.size + 1 + 1) 2 2 [l.length, k.length] 40 _ rfl (by decide) (zholds_two s a c t b d (by go_simp) (by go_simp) (by go_simp) (by go_simp))).mono ?_); rintro e w1 ⟨rfl, hc1⟩; have E1 : Below w.heap.size w w1 := bel_step (by (with_reducible repeat' first | exact Below.refl _ _ | assumption | apply belA | apply Below.drew | apply below_drewN | refine belS ?_ (by first | omega | (simp; done) | (simp; omega)))) hc1; have P1_p : Bx w1 w.heap.size [.bool s, .slice a l.length c] := Bx.below (show Bx _ w.heap.size [.bool s, .slice a l.length c] from (by (with_reducible repeat' first | assumption | exact Bx.new _ _ _ | refine Bx.newAt _ _ _ (by simp; done) | apply Bx.dr | apply Bx.drN | apply Bx.al | refine Bx.st ?_ (by first | assumption | omega | (simp; done) | (simp; omega))))) hc1; have P1_q : Bx w1 (w.heap.size + 1) [.bool t, .slice b k.length d] := Bx.below (show Bx _ (w.heap.size + 1) [.bool t, .slice b k.length d] from (by (with_reducible repeat' first | assumption | exact Bx.new _ _ _ | refine Bx.newAt _ _ _ (by simp; done) | apply Bx.dr | apply Bx.drN | apply Bx.al | refine Bx.st ?_ (by first | assumption | omega | (simp; done) | (simp; omega))))) hc1; have ha1 := ha.below E1; have hb1 := hb.below E1; have hbw1 : Below w.heap.size w w1 := E1; have hz1 := hbw1.size; obtain ⟨⟨k1_p_0, g1_p_0⟩, ⟨k1_p_1, g1_p_1⟩, x1_p, y1_p, q1_p⟩ := id P1_p.x2; obtain ⟨⟨k1_q_0, g1_q_0⟩, ⟨k1_q_1, g1_q_1⟩, x1_q, y1_q, q1_q⟩ := id P1_q.x2; rw [hfew]; clear E1))
  go_wp2_with (go_at_call 20; go_loud ((with_reducible refine (HN0.out _ _ _ _ _ _ (by (with_reducible repeat' first | exact Below.refl _ _ | assumption | apply belA | apply Below.drew | apply below_drewN | refine belS ?_ (by first | omega | (simp; done) | (simp; omega)))) cap_a cap_b ha1 hb1).mono ?_); rintro e w2 ⟨γ2, rfl, f2, hc2⟩; have E2 : Below w1.heap.size w1 w2 := bel_step (by (with_reducible repeat' first | exact Below.refl _ _ | assumption | apply belA | apply Below.drew | apply below_drewN | refine belS ?_ (by first | omega | (simp; done) | (simp; omega)))) hc2; have P2_p := P1_p.below E2; have P2_q := P1_q.below E2; have ha2 := ha1.below E2; have hb2 := hb1.below E2; have hbw2 : Below w.heap.size w w2 := bel_step hbw1 E2; have hz2 := hbw2.size; obtain ⟨⟨k2_p_0, g2_p_0⟩, ⟨k2_p_1, g2_p_1⟩, x2_p, y2_p, q2_p⟩ := id P2_p.x2; obtain ⟨⟨k2_q_0, g2_q_0⟩, ⟨k2_q_1, g2_q_1⟩, x2_q, y2_q, q2_q⟩ := id P2_q.x2; have hqx2 : Rw w2 (γ2 0).1 ZQ := (f2 0 _ rfl).2; have cap_qx : ZQ.length ≤ (γ2 0).2 := (f2 0 _ rfl).1; have hmx2 : Rw w2 (γ2 1).1 ZM := (f2 1 _ rfl).2; have cap_mx : ZM.length ≤ (γ2 1).2 := (f2 1 _ rfl).1; clear P1_p q1_p k1_p_0 g1_p_0 k1_p_1 g1_p_1 x1_p y1_p P1_q q1_q k1_q_0 g1_q_0 k1_q_1 g1_q_1 x1_q y1_q ha1 hb1 E2))
  go_wp2_with (go_at_call 21; go_loud ((with_reducible refine (HN1.out _ _ _ _ _ _ (by (with_reducible repeat' first | exact Below.refl _ _ | assumption | apply belA | apply Below.drew | apply below_drewN | refine belS ?_ (by first | omega | (simp; done) | (simp; omega)))) cap_a cap_b ha2 hb2).mono ?_); rintro e w3 ⟨γ3, rfl, f3, hc3⟩; have E3 : Below w2.heap.size w2 w3 := bel_step (by (with_reducible repeat' first | exact Below.refl _ _ | assumption | apply belA | apply Below.drew | apply below_drewN | refine belS ?_ (by first | omega | (simp; done) | (simp; omega)))) hc3; have P3_p := P2_p.below E3; have P3_q := P2_q.below E3; have P3_bq : Bx w3 w2.heap.size [.bool sQ, .slice (γ2 0).1 ZQ.length (γ2 0).2] := Bx.below (Bx.of2 (by first | with_reducible assumption | go_simp) (by first | with_reducible assumption | go_simp) (by first | with_reducible assumption | go_simp) (by first | with_reducible assumption | go_simp) : Bx _ w2.heap.size [.bool sQ, .slice (γ2 0).1 ZQ.length (γ2 0).2]) hc3; have P3_br : Bx w3 (w2.heap.size + 1) [.bool sM, .slice (γ2 1).1 ZM.length (γ2 1).2] := Bx.below (Bx.of2 (by first | with_reducible assumption | go_simp) (by first | with_reducible assumption | go_simp) (by first | with_reducible assumption | go_simp) (by first | with_reducible assumption | go_simp) : Bx _ (w2.heap.size + 1) [.bool sM, .slice (γ2 1).1 ZM.length (γ2 1).2]) hc3; have ha3 := ha2.below E3; have hb3 := hb2.below E3; have hqx3 := hqx2.below E3; have hmx3 := hmx2.below E3; have hbw3 : Below w.heap.size w w3 := bel_step hbw2 E3; have hz3 := hbw3.size; obtain ⟨⟨k3_p_0, g3_p_0⟩, ⟨k3_p_1, g3_p_1⟩, x3_p, y3_p, q3_p⟩ := id P3_p.x2; obtain ⟨⟨k3_q_0, g3_q_0⟩, ⟨k3_q_1, g3_q_1⟩, x3_q, y3_q, q3_q⟩ := id P3_q.x2; obtain ⟨⟨k3_bq_0, g3_bq_0⟩, ⟨k3_bq_1, g3_bq_1⟩, x3_bq, y3_bq, q3_bq⟩ := id P3_bq.x2; obtain ⟨⟨k3_br_0, g3_br_0⟩, ⟨k3_br_1, g3_br_1⟩, x3_br, y3_br, q3_br⟩ := id P3_br.x2; have hvx3 : Rw w3 (γ3 0).1 ZV := (f3 0 _ rfl).2; have cap_vx : ZV.length ≤ (γ3 0).2 := (f3 0 _ rfl).1; clear P2_p q2_p k2_p_0 g2_p_0 k2_p_1 g2_p_1 x2_p y2_p P2_q q2_q k2_q_0 g2_q_0 k2_q_1 g2_q_1 x2_q y2_q ha2 hb2 hqx2 hmx2 E3))
  go_wp2_with (go_at_call 22; go_loud ((with_reducible refine (HN2.out _ _ _ _ (by (with_reducible repeat' first | exact Below.refl _ _ | assumption | apply belA | apply Below.drew | apply below_drewN | refine belS ?_ (by first | omega | (simp; done) | (simp; omega)))) cap_b hb3).mono ?_); rintro e w4 ⟨rfl, hc4⟩; have E4 : Below w3.heap.size w3 w4 := bel_step (by (with_reducible repeat' first | exact Below.refl _ _ | assumption | apply belA | apply Below.drew | apply below_drewN | refine belS ?_ (by first | omega | (simp; done) | (simp; omega)))) hc4; have P4_p := P3_p.below E4; have P4_q := P3_q.below E4; have P4_bq := P3_bq.below E4; have P4_br := P3_br.below E4; have P4_bn : Bx w4 w3.heap.size [.bool sV, .slice (γ3 0).1 ZV.length (γ3 0).2] := Bx.below (Bx.of2 (by first | with_reducible assumption | go_simp) (by first | with_reducible assumption | go_simp) (by first | with_reducible assumption | go_simp) (by first | with_reducible assumption | go_simp) : Bx _ w3.heap.size [.bool sV, .slice (γ3 0).1 ZV.length (γ3 0).2]) hc4; have ha4 := ha3.below E4; have hb4 := hb3.below E4; have hqx4 := hqx3.below E4; have hmx4 := hmx3.below E4; have hvx4 := hvx3.below E4; have hbw4 : Below w.heap.size w w4 := bel_step hbw3 E4; have hz4 := hbw4.size; obtain ⟨⟨k4_p_0, g4_p_0⟩, ⟨k4_p_1, g4_p_1⟩, x4_p, y4_p, q4_p⟩ := id P4_p.x2; obtain ⟨⟨k4_q_0, g4_q_0⟩, ⟨k4_q_1, g4_q_1⟩, x4_q, y4_q, q4_q⟩ := id P4_q.x2; obtain ⟨⟨k4_bq_0, g4_bq_0⟩, ⟨k4_bq_1, g4_bq_1⟩, x4_bq, y4_bq, q4_bq⟩ := id P4_bq.x2; obtain ⟨⟨k4_br_0, g4_br_0⟩, ⟨k4_br_1, g4_br_1⟩, x4_br, y4_br, q4_br⟩ := id P4_br.x2; obtain ⟨⟨k4_bn_0, g4_bn_0⟩, ⟨k4_bn_1, g4_bn_1⟩, x4_bn, y4_bn, q4_bn⟩ := id P4_bn.x2; clear P3_p q3_p k3_p_0 g3_p_0 k3_p_1 g3_p_1 x3_p y3_p P3_q q3_q k3_q_0 g3_q_0 k3_q_1 g3_q_1 x3_q y3_q P3_bq q3_bq k3_bq_0 g3_bq_0 k3_bq_1 g3_bq_1 x3_bq y3_bq P3_br q3_br k3_br_0 g3_br_0 k3_br_1 g3_br_1 x3_br y3_br ha3 hb3 hqx3 hmx3 hvx3 E4))
  rcases F1.out with f3 | ⟨f3, f5⟩
  focus
    clear F1
    refine wp_region_go1 (fun W => Bx W w.heap.size [.bool s, .slice a l.length c] ∧ Bx W (w.heap.size + 1) [.bool t, .slice b k.length d] ∧ Bx W w2.heap.size [.bool sQ, .slice (γ2 0).1 ZQ.length (γ2 0).2] ∧ Bx W (w2.heap.size + 1) [.bool sM, .slice (γ2 1).1 ZM.length (γ2 1).2] ∧ Bx W w3.heap.size [.bool sV, .slice (γ3 0).1 ZV.length (γ3 0).2] ∧ Rw W a l ∧ Rw W b k ∧ Rw W (γ2 0).1 ZQ ∧ Rw W (γ2 1).1 ZM ∧ Rw W (γ3 0).1 ZV ∧ Below w.heap.size w W) 36 144 [kv (.int .i64 0), kv (.bool false), kv (.bool false), kv (.int .i64 0), kv (.bool false), kv (.bool false), kv (.bool false), kv (.agg #[.bool sQ, .slice (γ2 0).1 ZQ.length (γ2 0).2]), kv (.agg #[.bool t, .slice b k.length d]), .made (fun γ => .agg #[.bool sA, .slice (γ 0).1 ZA.length (γ 0).2]) (RwsP [ZA]), kv (.agg #[.bool sM, .slice (γ2 1).1 ZM.length (γ2 1).2]), .made (fun γ => .agg #[.bool sU, .slice (γ 0).1 ZU.length (γ 0).2]) (RwsP [ZU]), kv (.agg #[.bool s, .slice a l.length c]), km (.int .i64 0), kv (.bool false), kv (.bool false), kv (.bool false), kv (.agg #[.bool sM, .slice (γ2 1).1 ZM.length (γ2 1).2]), .made (fun γ => .agg #[.bool sE, .slice (γ 0).1 ZE.length (γ 0).2]) (RwsP [ZE]), kv (.agg #[.bool t, .slice b k.length d]), .made (fun γ => .agg #[.bool sB, .slice (γ 0).1 ZB.length (γ 0).2]) (RwsP [ZB]), km (.int .i64 (-1)), kv (.bool false), kv (.bool false), kv (.bool false), kv (.agg #[.bool sM, .slice (γ2 1).1 ZM.length (γ2 1).2]), km (.int .i64 sm), kv (.bool false), kv (.bool false), .skip, .skip, .skip, .skip, .skip, kv (.bool false), kv (.bool false)] [[], [], [], [], [], [], [], [], [], [], [], [9], [], [11], [], [], [], [], [], [], [], [18, 20], [], [], [], [], [], [], [], [], [], [], [], [], [], []] [9, 11, 13, 18, 20, 21, 26] (by kernel_rfl) (by kernel_rfl) rfl (by kernel_rfl) (by kernel_rfl) (by kernel_rfl) rfl (by repeat' first | exact fits_nil | refine fits_cons ?_ ?_ | exact fit_const _ | exact trueP_fit _ | exact owP_fit _ _ | exact rwsP_fit _ _ | exact rwnP_fit _ _ | exact fit_fresh _ | exact fit_skip) (by rintro w1 w2 ⟨p_p, p_q, p_bq, p_br, p_bn, r_a, r_b, r_qx, r_mx, r_vx, bel⟩ hc; exact ⟨p_p.below hc, p_q.below hc, p_bq.below hc, p_br.below hc, p_bn.below hc, r_a.below hc, r_b.below hc, r_qx.below hc, r_mx.below hc, r_vx.below hc, bel_step bel hc⟩) (⟨P4_p, P4_q, P4_bq, P4_br, P4_bn, ha4, hb4, hqx4, hmx4, hvx4, hbw4⟩) (by (with_reducible repeat' first | exact Below.refl _ _ | assumption | apply belA | apply Below.drew | apply below_drewN | refine belS ?_ (by first | omega | (simp; done) | (simp; omega)))) ?_
    rintro w5 ⟨P5_p, P5_q, P5_bq, P5_br, P5_bn, ha5, hb5, hqx5, hmx5, hvx5, hbw5⟩ G1 lo1 hi1
    clear P4_p q4_p k4_p_0 g4_p_0 k4_p_1 g4_p_1 x4_p y4_p P4_q q4_q k4_q_0 g4_q_0 k4_q_1 g4_q_1 x4_q y4_q P4_bq q4_bq k4_bq_0 g4_bq_0 k4_bq_1 g4_bq_1 x4_bq y4_bq P4_br q4_br k4_br_0 g4_br_0 k4_br_1 g4_br_1 x4_br y4_br P4_bn q4_bn k4_bn_0 g4_bn_0 k4_bn_1 g4_bn_1 x4_bn y4_bn ha4 hb4 hqx4 hmx4 hvx4
    have hz5 := hbw5.size
    simp only [List.take_succ_cons, List.take_zero, List.drop_succ_cons, List.drop_zero, List.cons_append, List.nil_append, List.append_nil]
    refine oge_val (by rfl) ?_ ?_
    · exact fun f hf w' h _ => mv rfl (by rw [← hf]; rfl)
    refine oge_val (by rfl) ?_ ?_
    · intro f hf; have u60 : f 60 = (.int .i64 0) := (by rw [← hf]; rfl); clear hf; intro w' h _; clear h; go_simp
    refine oge_val (by rfl) ?_ ?_
    · exact fun f hf w' h _ => mv rfl (by rw [← hf]; rfl)
    refine oge_val (by rfl) ?_ ?_
    · exact fun f hf w' h _ => mv rfl (by rw [← hf]; rfl)
    refine oge_val (by rfl) ?_ ?_
    · intro f hf; have u63 : f 63 = (.int .i64 0) := (by rw [← hf]; rfl); clear hf; intro w' h _; clear h; go_simp
    refine oge_val (by rfl) ?_ ?_
    · exact fun f hf w' h _ => pkF rfl (by rw [← hf]; rfl) (by rw [← hf]; rfl)
    refine oge_val (by rfl) ?_ ?_
    · exact fun f hf w' h _ => mv rfl (by rw [← hf]; rfl)
    refine oge_val (by rfl) ?_ ?_
    · exact fun f hf w' h _ => ldI (off := 0) rfl (by rw [← hf]; rfl) (h.2.2.1) rfl rfl
    refine oge_val (by rfl) ?_ ?_
    · exact fun f hf w' h _ => ldI (off := 0) rfl (by rw [← hf]; rfl) (h.2.1) rfl rfl
    refine oge_call 13 #[.agg #[.bool sQ, .slice (γ2 0).1 ZQ.length (γ2 0).2], .agg #[.bool t, .slice b k.length d]] (by rfl) ?_ ?_ ?_
    · exact fun f hf w' h _ => cl2 rfl (by rw [← hf]; rfl) (by rw [← hf]; rfl) (by go_simp)
    · rintro w' ⟨p_p, p_q, p_bq, p_br, p_bn, r_a, r_b, r_qx, r_mx, r_vx, bel⟩ hF; exact HN3.out _ _ _ _ _ _ (Below.refl _ _) cap_qx cap_b r_qx r_b
    refine oge_val (by rfl) ?_ ?_
    · exact fun f hf w' h _ => ldI (off := 0) rfl (by rw [← hf]; rfl) (h.2.2.2.1) rfl rfl
    refine oge_call 11 #[.agg #[.bool sA, .slice (G1 9 0).1 ZA.length (G1 9 0).2], .agg #[.bool sM, .slice (γ2 1).1 ZM.length (γ2 1).2]] (by rfl) ?_ ?_ ?_
    · exact fun f hf w' h _ => cl2 rfl (by rw [← hf]; rfl) (by rw [← hf]; rfl) (by go_simp)
    · rintro w' ⟨p_p, p_q, p_bq, p_br, p_bn, r_a, r_b, r_qx, r_mx, r_vx, bel⟩ hF; have ff9 : RwsP [ZA] (G1 9) (lo1 9) (hi1 9) w' := (hF 9 (List.mem_of_elem_eq_true rfl)).1; exact HN4.out _ _ _ _ _ _ (Below.refl _ _) (ff9 0 _ rfl).1 cap_mx (ff9 0 _ rfl).2 r_mx
    refine oge_val (by rfl) ?_ ?_
    · exact fun f hf w' h _ => ldI (off := 0) rfl (by rw [← hf]; rfl) (h.1) rfl rfl
    refine oge_call 8 #[.agg #[.bool sU, .slice (G1 11 0).1 ZU.length (G1 11 0).2], .agg #[.bool s, .slice a l.length c]] (by rfl) ?_ ?_ ?_
    · exact fun f hf w' h _ => cl2 rfl (by rw [← hf]; rfl) (by rw [← hf]; rfl) (by go_simp)
    · rintro w' ⟨p_p, p_q, p_bq, p_br, p_bn, r_a, r_b, r_qx, r_mx, r_vx, bel⟩ hF; have ff11 : RwsP [ZU] (G1 11) (lo1 11) (hi1 11) w' := (hF 11 (List.mem_of_elem_eq_true rfl)).1; exact Calls.mono (HN5.out _ _ _ _ _ _ (Below.refl _ _) (ff11 0 _ rfl).1 cap_a (ff11 0 _ rfl).2 r_a) (fun _ _ h => AnsR.fix h)
    refine oge_val (by rfl) ?_ ?_
    · intro f hf; have u73 : f 73 = (.int .i64 0) := (by rw [← hf]; rfl); clear hf; intro w' h _; clear h; go_simp
    refine oge_val (by rfl) ?_ ?_
    · exact fun f hf w' h _ => pkF rfl (by rw [← hf]; rfl) (by rw [← hf]; rfl)
    refine oge_val (by rfl) ?_ ?_
    · exact fun f hf w' h _ => mv rfl (by rw [← hf]; rfl)
    refine oge_val (by rfl) ?_ ?_
    · exact fun f hf w' h _ => ldI (off := 0) rfl (by rw [← hf]; rfl) (h.2.2.2.1) rfl rfl
    refine oge_call 23 #[.agg #[.bool sM, .slice (γ2 1).1 ZM.length (γ2 1).2]] (by rfl) ?_ ?_ ?_
    · exact fun f hf w' h _ => cl1 rfl (by rw [← hf]; rfl) (by go_simp)
    · rintro w' ⟨p_p, p_q, p_bq, p_br, p_bn, r_a, r_b, r_qx, r_mx, r_vx, bel⟩ hF; exact HN6.out _ _ _ _ (Below.refl _ _) cap_mx r_mx
    refine oge_val (by rfl) ?_ ?_
    · exact fun f hf w' h _ => ldI (off := 0) rfl (by rw [← hf]; rfl) (h.2.1) rfl rfl
    refine oge_call 23 #[.agg #[.bool t, .slice b k.length d]] (by rfl) ?_ ?_ ?_
    · exact fun f hf w' h _ => cl1 rfl (by rw [← hf]; rfl) (by go_simp)
    · rintro w' ⟨p_p, p_q, p_bq, p_br, p_bn, r_a, r_b, r_qx, r_mx, r_vx, bel⟩ hF; exact HN7.out _ _ _ _ (Below.refl _ _) cap_b r_b
    refine oge_call 8 #[.agg #[.bool sE, .slice (G1 18 0).1 ZE.length (G1 18 0).2], .agg #[.bool sB, .slice (G1 20 0).1 ZB.length (G1 20 0).2]] (by rfl) ?_ ?_ ?_
    · exact fun f hf w' h _ => cl2 rfl (by rw [← hf]; rfl) (by rw [← hf]; rfl) (by go_simp)
    · rintro w' ⟨p_p, p_q, p_bq, p_br, p_bn, r_a, r_b, r_qx, r_mx, r_vx, bel⟩ hF; have ff18 : RwsP [ZE] (G1 18) (lo1 18) (hi1 18) w' := (hF 18 (List.mem_of_elem_eq_true rfl)).1; have ff20 : RwsP [ZB] (G1 20) (lo1 20) (hi1 20) w' := (hF 20 (List.mem_of_elem_eq_true rfl)).1; exact Calls.mono (HN8.out _ _ _ _ _ _ (Below.refl _ _) (ff18 0 _ rfl).1 (ff20 0 _ rfl).1 (ff18 0 _ rfl).2 (ff20 0 _ rfl).2) (fun _ _ h => AnsR.fix h)
    refine oge_val (by rfl) ?_ ?_
    · intro f hf; have u81 : f 81 = (.int .i64 (-1)) := (by rw [← hf]; rfl); clear hf; intro w' h _; clear h; go_simp
    refine oge_val (by rfl) ?_ ?_
    · exact fun f hf w' h _ => pkF rfl (by rw [← hf]; rfl) (by rw [← hf]; rfl)
    refine oge_val (by rfl) ?_ ?_
    · exact fun f hf w' h _ => mv rfl (by rw [← hf]; rfl)
    refine oge_val (by rfl) ?_ ?_
    · exact fun f hf w' h _ => ldI (off := 0) rfl (by rw [← hf]; rfl) (h.2.2.2.1) rfl rfl
    refine oge_call 22 #[.agg #[.bool sM, .slice (γ2 1).1 ZM.length (γ2 1).2]] (by rfl) ?_ ?_ ?_
    · exact fun f hf w' h _ => cl1 rfl (by rw [← hf]; rfl) (by go_simp)
    · rintro w' ⟨p_p, p_q, p_bq, p_br, p_bn, r_a, r_b, r_qx, r_mx, r_vx, bel⟩ hF; exact Calls.mono (HN9.out _ _ _ _ (Below.refl _ _) cap_mx r_mx) (fun _ _ h => AnsR.fix h)
    refine oge_val (by rfl) ?_ ?_
    · intro f hf; have u86 : f 86 = (.int .i64 sm) := (by rw [← hf]; rfl); clear hf; intro w' h _; clear h; go_simp
    refine oge_val (by rfl) ?_ ?_
    · exact fun f hf w' h _ => mv rfl (by rw [← hf]; rfl)
    refine oge_skip (by rfl) ?_
    refine oge_skip (by rfl) ?_
    refine oge_skip (by rfl) ?_
    refine oge_skip (by rfl) ?_
    refine oge_skip (by rfl) ?_
    refine oge_val (by rfl) ?_ ?_
    · exact fun f hf w' h _ => pkF rfl (by rw [← hf]; rfl) (by rw [← hf]; rfl)
    refine oge_val (by rfl) ?_ ?_
    · exact fun f hf w' h _ => pkF rfl (by rw [← hf]; rfl) (by rw [← hf]; rfl)
    refine oge_nil ?_
    rintro w6 ⟨P6_p, P6_q, P6_bq, P6_br, P6_bn, ha6, hb6, hqx6, hmx6, hvx6, hbw6⟩ hd6 hA
    have hz6 := hbw6.size
    obtain ⟨⟨la9, lb9, lc9, fw9⟩, ld9, ⟨⟨la11, lb11, lc11, fw11⟩, ld11, ⟨⟨la13, lb13, lc13, fw13⟩, ld13, ⟨⟨la18, lb18, lc18, fw18⟩, ld18, ⟨⟨la20, lb20, lc20, fw20⟩, ld20, ⟨⟨la21, lb21, lc21, fw21⟩, ld21, ⟨⟨la26, lb26, lc26, fw26⟩, ld26, -⟩⟩⟩⟩⟩⟩⟩ := hA
    have fa9 : RwsP [ZA] (G1 9) (lo1 9) (hi1 9) w6 := fw9
    have fa11 : RwsP [ZU] (G1 11) (lo1 11) (hi1 11) w6 := fw11
    have fa18 : RwsP [ZE] (G1 18) (lo1 18) (hi1 18) w6 := fw18
    have fa20 : RwsP [ZB] (G1 20) (lo1 20) (hi1 20) w6 := fw20
    have qq5_p : w.heap.size < w5.heap.size := P5_p.2
    have qq5_q : (w.heap.size + 1) < w5.heap.size := P5_q.2
    have qq5_bq : w2.heap.size < w5.heap.size := P5_bq.2
    have qq5_br : (w2.heap.size + 1) < w5.heap.size := P5_br.2
    have qq5_bn : w3.heap.size < w5.heap.size := P5_bn.2
    clear P5_p P5_q P5_bq P5_br P5_bn ha5 hb5 hqx5 hmx5 hvx5 ld9 fw9 ld11 fw11 ld13 fw13 ld18 fw18 ld20 fw20 ld21 fw21 ld26 fw26 hd6
    have q6_p := P6_p.2
    have q6_q := P6_q.2
    have q6_bq := P6_bq.2
    have q6_br := P6_br.2
    have q6_bn := P6_bn.2
    simp only [puts, putD, Act.put, List.setIfInBounds_toArray, List.set_cons_zero, List.set_cons_succ]
    go_wp2
  rotate_left
  focus
    clear F1
    subst f5
    have f4 : (sg != sg) = false := by simp
    refine wp_region_go1 (fun W => Bx W w.heap.size [.bool s, .slice a l.length c] ∧ Bx W (w.heap.size + 1) [.bool t, .slice b k.length d] ∧ Bx W w2.heap.size [.bool sQ, .slice (γ2 0).1 ZQ.length (γ2 0).2] ∧ Bx W (w2.heap.size + 1) [.bool sM, .slice (γ2 1).1 ZM.length (γ2 1).2] ∧ Bx W w3.heap.size [.bool sV, .slice (γ3 0).1 ZV.length (γ3 0).2] ∧ Rw W a l ∧ Rw W b k ∧ Rw W (γ2 0).1 ZQ ∧ Rw W (γ2 1).1 ZM ∧ Rw W (γ3 0).1 ZV ∧ Below w.heap.size w W) 36 144 [kv (.int .i64 0), kv (.bool false), kv (.bool false), kv (.int .i64 0), kv (.bool false), kv (.bool false), kv (.bool false), kv (.agg #[.bool sQ, .slice (γ2 0).1 ZQ.length (γ2 0).2]), kv (.agg #[.bool t, .slice b k.length d]), .made (fun γ => .agg #[.bool sA, .slice (γ 0).1 ZA.length (γ 0).2]) (RwsP [ZA]), kv (.agg #[.bool sM, .slice (γ2 1).1 ZM.length (γ2 1).2]), .made (fun γ => .agg #[.bool sU, .slice (γ 0).1 ZU.length (γ 0).2]) (RwsP [ZU]), kv (.agg #[.bool s, .slice a l.length c]), km (.int .i64 0), kv (.bool false), kv (.bool false), kv (.bool false), kv (.agg #[.bool sM, .slice (γ2 1).1 ZM.length (γ2 1).2]), .made (fun γ => .agg #[.bool sE, .slice (γ 0).1 ZE.length (γ 0).2]) (RwsP [ZE]), kv (.agg #[.bool t, .slice b k.length d]), .made (fun γ => .agg #[.bool sB, .slice (γ 0).1 ZB.length (γ 0).2]) (RwsP [ZB]), km (.int .i64 (-1)), kv (.bool false), kv (.bool false), kv (.bool false), kv (.agg #[.bool sM, .slice (γ2 1).1 ZM.length (γ2 1).2]), km (.int .i64 sg), kv (.bool true), kv (.bool true), kv (.agg #[.bool sM, .slice (γ2 1).1 ZM.length (γ2 1).2]), km (.int .i64 sg), kv (.agg #[.bool t, .slice b k.length d]), km (.int .i64 sg), kv (.bool false), kv (.bool false), kv (.bool false)] [[], [], [], [], [], [], [], [], [], [], [], [9], [], [11], [], [], [], [], [], [], [], [18, 20], [], [], [], [], [], [], [], [], [], [], [], [], [], []] [9, 11, 13, 18, 20, 21, 26, 30, 32] (by kernel_rfl) (by kernel_rfl) rfl (by kernel_rfl) (by kernel_rfl) (by kernel_rfl) rfl (by repeat' first | exact fits_nil | refine fits_cons ?_ ?_ | exact fit_const _ | exact trueP_fit _ | exact owP_fit _ _ | exact rwsP_fit _ _ | exact rwnP_fit _ _ | exact fit_fresh _ | exact fit_skip) (by rintro w1 w2 ⟨p_p, p_q, p_bq, p_br, p_bn, r_a, r_b, r_qx, r_mx, r_vx, bel⟩ hc; exact ⟨p_p.below hc, p_q.below hc, p_bq.below hc, p_br.below hc, p_bn.below hc, r_a.below hc, r_b.below hc, r_qx.below hc, r_mx.below hc, r_vx.below hc, bel_step bel hc⟩) (⟨P4_p, P4_q, P4_bq, P4_br, P4_bn, ha4, hb4, hqx4, hmx4, hvx4, hbw4⟩) (by (with_reducible repeat' first | exact Below.refl _ _ | assumption | apply belA | apply Below.drew | apply below_drewN | refine belS ?_ (by first | omega | (simp; done) | (simp; omega)))) ?_
    rintro w5 ⟨P5_p, P5_q, P5_bq, P5_br, P5_bn, ha5, hb5, hqx5, hmx5, hvx5, hbw5⟩ G1 lo1 hi1
    clear P4_p q4_p k4_p_0 g4_p_0 k4_p_1 g4_p_1 x4_p y4_p P4_q q4_q k4_q_0 g4_q_0 k4_q_1 g4_q_1 x4_q y4_q P4_bq q4_bq k4_bq_0 g4_bq_0 k4_bq_1 g4_bq_1 x4_bq y4_bq P4_br q4_br k4_br_0 g4_br_0 k4_br_1 g4_br_1 x4_br y4_br P4_bn q4_bn k4_bn_0 g4_bn_0 k4_bn_1 g4_bn_1 x4_bn y4_bn ha4 hb4 hqx4 hmx4 hvx4
    have hz5 := hbw5.size
    simp only [List.take_succ_cons, List.take_zero, List.drop_succ_cons, List.drop_zero, List.cons_append, List.nil_append, List.append_nil]
    refine oge_val (by rfl) ?_ ?_
    · exact fun f hf w' h _ => mv rfl (by rw [← hf]; rfl)
    refine oge_val (by rfl) ?_ ?_
    · intro f hf; have u60 : f 60 = (.int .i64 0) := (by rw [← hf]; rfl); clear hf; intro w' h _; clear h; go_simp
    refine oge_val (by rfl) ?_ ?_
    · exact fun f hf w' h _ => mv rfl (by rw [← hf]; rfl)
    refine oge_val (by rfl) ?_ ?_
    · exact fun f hf w' h _ => mv rfl (by rw [← hf]; rfl)
    refine oge_val (by rfl) ?_ ?_
    · intro f hf; have u63 : f 63 = (.int .i64 0) := (by rw [← hf]; rfl); clear hf; intro w' h _; clear h; go_simp
    refine oge_val (by rfl) ?_ ?_
    · exact fun f hf w' h _ => pkF rfl (by rw [← hf]; rfl) (by rw [← hf]; rfl)
    refine oge_val (by rfl) ?_ ?_
    · exact fun f hf w' h _ => mv rfl (by rw [← hf]; rfl)
    refine oge_val (by rfl) ?_ ?_
    · exact fun f hf w' h _ => ldI (off := 0) rfl (by rw [← hf]; rfl) (h.2.2.1) rfl rfl
    refine oge_val (by rfl) ?_ ?_
    · exact fun f hf w' h _ => ldI (off := 0) rfl (by rw [← hf]; rfl) (h.2.1) rfl rfl
    refine oge_call 13 #[.agg #[.bool sQ, .slice (γ2 0).1 ZQ.length (γ2 0).2], .agg #[.bool t, .slice b k.length d]] (by rfl) ?_ ?_ ?_
    · exact fun f hf w' h _ => cl2 rfl (by rw [← hf]; rfl) (by rw [← hf]; rfl) (by go_simp)
    · rintro w' ⟨p_p, p_q, p_bq, p_br, p_bn, r_a, r_b, r_qx, r_mx, r_vx, bel⟩ hF; exact HN3.out _ _ _ _ _ _ (Below.refl _ _) cap_qx cap_b r_qx r_b
    refine oge_val (by rfl) ?_ ?_
    · exact fun f hf w' h _ => ldI (off := 0) rfl (by rw [← hf]; rfl) (h.2.2.2.1) rfl rfl
    refine oge_call 11 #[.agg #[.bool sA, .slice (G1 9 0).1 ZA.length (G1 9 0).2], .agg #[.bool sM, .slice (γ2 1).1 ZM.length (γ2 1).2]] (by rfl) ?_ ?_ ?_
    · exact fun f hf w' h _ => cl2 rfl (by rw [← hf]; rfl) (by rw [← hf]; rfl) (by go_simp)
    · rintro w' ⟨p_p, p_q, p_bq, p_br, p_bn, r_a, r_b, r_qx, r_mx, r_vx, bel⟩ hF; have ff9 : RwsP [ZA] (G1 9) (lo1 9) (hi1 9) w' := (hF 9 (List.mem_of_elem_eq_true rfl)).1; exact HN4.out _ _ _ _ _ _ (Below.refl _ _) (ff9 0 _ rfl).1 cap_mx (ff9 0 _ rfl).2 r_mx
    refine oge_val (by rfl) ?_ ?_
    · exact fun f hf w' h _ => ldI (off := 0) rfl (by rw [← hf]; rfl) (h.1) rfl rfl
    refine oge_call 8 #[.agg #[.bool sU, .slice (G1 11 0).1 ZU.length (G1 11 0).2], .agg #[.bool s, .slice a l.length c]] (by rfl) ?_ ?_ ?_
    · exact fun f hf w' h _ => cl2 rfl (by rw [← hf]; rfl) (by rw [← hf]; rfl) (by go_simp)
    · rintro w' ⟨p_p, p_q, p_bq, p_br, p_bn, r_a, r_b, r_qx, r_mx, r_vx, bel⟩ hF; have ff11 : RwsP [ZU] (G1 11) (lo1 11) (hi1 11) w' := (hF 11 (List.mem_of_elem_eq_true rfl)).1; exact Calls.mono (HN5.out _ _ _ _ _ _ (Below.refl _ _) (ff11 0 _ rfl).1 cap_a (ff11 0 _ rfl).2 r_a) (fun _ _ h => AnsR.fix h)
    refine oge_val (by rfl) ?_ ?_
    · intro f hf; have u73 : f 73 = (.int .i64 0) := (by rw [← hf]; rfl); clear hf; intro w' h _; clear h; go_simp
    refine oge_val (by rfl) ?_ ?_
    · exact fun f hf w' h _ => pkF rfl (by rw [← hf]; rfl) (by rw [← hf]; rfl)
    refine oge_val (by rfl) ?_ ?_
    · exact fun f hf w' h _ => mv rfl (by rw [← hf]; rfl)
    refine oge_val (by rfl) ?_ ?_
    · exact fun f hf w' h _ => ldI (off := 0) rfl (by rw [← hf]; rfl) (h.2.2.2.1) rfl rfl
    refine oge_call 23 #[.agg #[.bool sM, .slice (γ2 1).1 ZM.length (γ2 1).2]] (by rfl) ?_ ?_ ?_
    · exact fun f hf w' h _ => cl1 rfl (by rw [← hf]; rfl) (by go_simp)
    · rintro w' ⟨p_p, p_q, p_bq, p_br, p_bn, r_a, r_b, r_qx, r_mx, r_vx, bel⟩ hF; exact HN6.out _ _ _ _ (Below.refl _ _) cap_mx r_mx
    refine oge_val (by rfl) ?_ ?_
    · exact fun f hf w' h _ => ldI (off := 0) rfl (by rw [← hf]; rfl) (h.2.1) rfl rfl
    refine oge_call 23 #[.agg #[.bool t, .slice b k.length d]] (by rfl) ?_ ?_ ?_
    · exact fun f hf w' h _ => cl1 rfl (by rw [← hf]; rfl) (by go_simp)
    · rintro w' ⟨p_p, p_q, p_bq, p_br, p_bn, r_a, r_b, r_qx, r_mx, r_vx, bel⟩ hF; exact HN7.out _ _ _ _ (Below.refl _ _) cap_b r_b
    refine oge_call 8 #[.agg #[.bool sE, .slice (G1 18 0).1 ZE.length (G1 18 0).2], .agg #[.bool sB, .slice (G1 20 0).1 ZB.length (G1 20 0).2]] (by rfl) ?_ ?_ ?_
    · exact fun f hf w' h _ => cl2 rfl (by rw [← hf]; rfl) (by rw [← hf]; rfl) (by go_simp)
    · rintro w' ⟨p_p, p_q, p_bq, p_br, p_bn, r_a, r_b, r_qx, r_mx, r_vx, bel⟩ hF; have ff18 : RwsP [ZE] (G1 18) (lo1 18) (hi1 18) w' := (hF 18 (List.mem_of_elem_eq_true rfl)).1; have ff20 : RwsP [ZB] (G1 20) (lo1 20) (hi1 20) w' := (hF 20 (List.mem_of_elem_eq_true rfl)).1; exact Calls.mono (HN8.out _ _ _ _ _ _ (Below.refl _ _) (ff18 0 _ rfl).1 (ff20 0 _ rfl).1 (ff18 0 _ rfl).2 (ff20 0 _ rfl).2) (fun _ _ h => AnsR.fix h)
    refine oge_val (by rfl) ?_ ?_
    · intro f hf; have u81 : f 81 = (.int .i64 (-1)) := (by rw [← hf]; rfl); clear hf; intro w' h _; clear h; go_simp
    refine oge_val (by rfl) ?_ ?_
    · exact fun f hf w' h _ => pkF rfl (by rw [← hf]; rfl) (by rw [← hf]; rfl)
    refine oge_val (by rfl) ?_ ?_
    · exact fun f hf w' h _ => mv rfl (by rw [← hf]; rfl)
    refine oge_val (by rfl) ?_ ?_
    · exact fun f hf w' h _ => ldI (off := 0) rfl (by rw [← hf]; rfl) (h.2.2.2.1) rfl rfl
    refine oge_call 22 #[.agg #[.bool sM, .slice (γ2 1).1 ZM.length (γ2 1).2]] (by rfl) ?_ ?_ ?_
    · exact fun f hf w' h _ => cl1 rfl (by rw [← hf]; rfl) (by go_simp)
    · rintro w' ⟨p_p, p_q, p_bq, p_br, p_bn, r_a, r_b, r_qx, r_mx, r_vx, bel⟩ hF; exact Calls.mono (HN9.out _ _ _ _ (Below.refl _ _) cap_mx r_mx) (fun _ _ h => AnsR.fix h)
    refine oge_val (by rfl) ?_ ?_
    · intro f hf; have u86 : f 86 = (.int .i64 sg) := (by rw [← hf]; rfl); clear hf; intro w' h _; clear h; go_simp
    refine oge_val (by rfl) ?_ ?_
    · exact fun f hf w' h _ => mv rfl (by rw [← hf]; rfl)
    refine oge_val (by rfl) ?_ ?_
    · exact fun f hf w' h _ => ldI (off := 0) rfl (by rw [← hf]; rfl) (h.2.2.2.1) rfl rfl
    refine oge_call 22 #[.agg #[.bool sM, .slice (γ2 1).1 ZM.length (γ2 1).2]] (by rfl) ?_ ?_ ?_
    · exact fun f hf w' h _ => cl1 rfl (by rw [← hf]; rfl) (by go_simp)
    · rintro w' ⟨p_p, p_q, p_bq, p_br, p_bn, r_a, r_b, r_qx, r_mx, r_vx, bel⟩ hF; exact Calls.mono (HN9.out _ _ _ _ (Below.refl _ _) cap_mx r_mx) (fun _ _ h => AnsR.fix h)
    refine oge_val (by rfl) ?_ ?_
    · exact fun f hf w' h _ => ldI (off := 0) rfl (by rw [← hf]; rfl) (h.2.1) rfl rfl
    refine oge_call 22 #[.agg #[.bool t, .slice b k.length d]] (by rfl) ?_ ?_ ?_
    · exact fun f hf w' h _ => cl1 rfl (by rw [← hf]; rfl) (by go_simp)
    · rintro w' ⟨p_p, p_q, p_bq, p_br, p_bn, r_a, r_b, r_qx, r_mx, r_vx, bel⟩ hF; exact Calls.mono (HN2.out _ _ _ _ (Below.refl _ _) cap_b r_b) (fun _ _ h => AnsR.fix h)
    refine oge_val (by rfl) ?_ ?_
    · intro f hf; have u90 : f 90 = (.int .i64 sg) := (by rw [← hf]; rfl); have u92 : f 92 = (.int .i64 sg) := (by rw [← hf]; rfl); clear hf; intro w' h _; clear h; go_simp
    refine oge_val (by rfl) ?_ ?_
    · exact fun f hf w' h _ => pkT rfl (by rw [← hf]; rfl) (by rw [← hf]; rfl)
    refine oge_val (by rfl) ?_ ?_
    · exact fun f hf w' h _ => pkF rfl (by rw [← hf]; rfl) (by rw [← hf]; rfl)
    refine oge_nil ?_
    rintro w6 ⟨P6_p, P6_q, P6_bq, P6_br, P6_bn, ha6, hb6, hqx6, hmx6, hvx6, hbw6⟩ hd6 hA
    have hz6 := hbw6.size
    obtain ⟨⟨la9, lb9, lc9, fw9⟩, ld9, ⟨⟨la11, lb11, lc11, fw11⟩, ld11, ⟨⟨la13, lb13, lc13, fw13⟩, ld13, ⟨⟨la18, lb18, lc18, fw18⟩, ld18, ⟨⟨la20, lb20, lc20, fw20⟩, ld20, ⟨⟨la21, lb21, lc21, fw21⟩, ld21, ⟨⟨la26, lb26, lc26, fw26⟩, ld26, ⟨⟨la30, lb30, lc30, fw30⟩, ld30, ⟨⟨la32, lb32, lc32, fw32⟩, ld32, -⟩⟩⟩⟩⟩⟩⟩⟩⟩ := hA
    have fa9 : RwsP [ZA] (G1 9) (lo1 9) (hi1 9) w6 := fw9
    have fa11 : RwsP [ZU] (G1 11) (lo1 11) (hi1 11) w6 := fw11
    have fa18 : RwsP [ZE] (G1 18) (lo1 18) (hi1 18) w6 := fw18
    have fa20 : RwsP [ZB] (G1 20) (lo1 20) (hi1 20) w6 := fw20
    have qq5_p : w.heap.size < w5.heap.size := P5_p.2
    have qq5_q : (w.heap.size + 1) < w5.heap.size := P5_q.2
    have qq5_bq : w2.heap.size < w5.heap.size := P5_bq.2
    have qq5_br : (w2.heap.size + 1) < w5.heap.size := P5_br.2
    have qq5_bn : w3.heap.size < w5.heap.size := P5_bn.2
    clear P5_p P5_q P5_bq P5_br P5_bn ha5 hb5 hqx5 hmx5 hvx5 ld9 fw9 ld11 fw11 ld13 fw13 ld18 fw18 ld20 fw20 ld21 fw21 ld26 fw26 ld30 fw30 ld32 fw32 hd6
    have q6_p := P6_p.2
    have q6_q := P6_q.2
    have q6_bq := P6_bq.2
    have q6_br := P6_br.2
    have q6_bn := P6_bn.2
    simp only [puts, putD, Act.put, List.setIfInBounds_toArray, List.set_cons_zero, List.set_cons_succ]
    go_wp2
  all_goals
    refine wp_region_go1 (fun W => Bx W w.heap.size [.bool s, .slice a l.length c] ∧ Bx W (w.heap.size + 1) [.bool t, .slice b k.length d] ∧ Bx W w3.heap.size [.bool sV, .slice (γ3 0).1 ZV.length (γ3 0).2] ∧ Rw W a l ∧ Rw W b k ∧ Rw W (γ3 0).1 ZV ∧ Below w.heap.size w W) 7 144 [kv (.agg #[.bool s, .slice a l.length c]), kv (.agg #[.bool sV, .slice (γ3 0).1 ZV.length (γ3 0).2]), kv (.agg #[.bool t, .slice b k.length d]), .made (fun γ => .agg #[.bool sP, .slice (γ 0).1 ZP.length (γ 0).2]) (RwsP [ZP]), .made (fun γ => .agg #[.bool sD, .slice (γ 0).1 ZD.length (γ 0).2]) (RwsP [ZD]), .made (fun γ => .agg #[.bool sO, .slice (γ 0).1 ZO.length (γ 0).2]) (RwsP [ZO]), .fresh (.cells #[Value.bool false, Value.slice none 0 0] 24)] [[], [], [], [], [3], [4], []] [3, 4, 5, 6] (by kernel_rfl) (by kernel_rfl) rfl (by kernel_rfl) (by kernel_rfl) (by kernel_rfl) rfl (by repeat' first | exact fits_nil | refine fits_cons ?_ ?_ | exact fit_const _ | exact trueP_fit _ | exact owP_fit _ _ | exact rwsP_fit _ _ | exact rwnP_fit _ _ | exact fit_fresh _ | exact fit_skip) (by rintro w1 w2 ⟨p_p, p_q, p_bn, r_a, r_b, r_vx, bel⟩ hc; exact ⟨p_p.below hc, p_q.below hc, p_bn.below hc, r_a.below hc, r_b.below hc, r_vx.below hc, bel_step bel hc⟩) (⟨P6_p, P6_q, P6_bn, ha6, hb6, hvx6, hbw6⟩) (by (with_reducible repeat' first | exact Below.refl _ _ | assumption | apply belA | apply Below.drew | apply below_drewN | refine belS ?_ (by first | omega | (simp; done) | (simp; omega)))) ?_
    rintro w7 ⟨P7_p, P7_q, P7_bn, ha7, hb7, hvx7, hbw7⟩ G2 lo2 hi2
    clear P6_p q6_p P6_q q6_q P6_bn q6_bn ha6 hb6 hvx6
    have hz7 := hbw7.size
    simp only [List.take_succ_cons, List.take_zero, List.drop_succ_cons, List.drop_zero, List.cons_append, List.nil_append, List.append_nil]
    refine oge_val (by rfl) ?_ ?_
    · exact fun f hf w' h _ => ldI (off := 0) rfl (by rw [← hf]; rfl) (h.1) rfl rfl
    refine oge_val (by rfl) ?_ ?_
    · exact fun f hf w' h _ => ldI (off := 0) rfl (by rw [← hf]; rfl) (h.2.2.1) rfl rfl
    refine oge_val (by rfl) ?_ ?_
    · exact fun f hf w' h _ => ldI (off := 0) rfl (by rw [← hf]; rfl) (h.2.1) rfl rfl
    refine oge_call 13 #[.agg #[.bool sV, .slice (γ3 0).1 ZV.length (γ3 0).2], .agg #[.bool t, .slice b k.length d]] (by rfl) ?_ ?_ ?_
    · exact fun f hf w' h _ => cl2 rfl (by rw [← hf]; rfl) (by rw [← hf]; rfl) (by go_simp)
    · rintro w' ⟨p_p, p_q, p_bn, r_a, r_b, r_vx, bel⟩ hF; exact HN10.out _ _ _ _ _ _ (Below.refl _ _) cap_vx cap_b r_vx r_b
    refine oge_call 12 #[.agg #[.bool s, .slice a l.length c], .agg #[.bool sP, .slice (G2 3 0).1 ZP.length (G2 3 0).2]] (by rfl) ?_ ?_ ?_
    · exact fun f hf w' h _ => cl2 rfl (by rw [← hf]; rfl) (by rw [← hf]; rfl) (by go_simp)
    · rintro w' ⟨p_p, p_q, p_bn, r_a, r_b, r_vx, bel⟩ hF; have ff3 : RwsP [ZP] (G2 3) (lo2 3) (hi2 3) w' := (hF 3 (List.mem_of_elem_eq_true rfl)).1; exact HN11.out _ _ _ _ _ _ (Below.refl _ _) cap_a (ff3 0 _ rfl).1 r_a (ff3 0 _ rfl).2
    refine oge_call 23 #[.agg #[.bool sD, .slice (G2 4 0).1 ZD.length (G2 4 0).2]] (by rfl) ?_ ?_ ?_
    · exact fun f hf w' h _ => cl1 rfl (by rw [← hf]; rfl) (by go_simp)
    · rintro w' ⟨p_p, p_q, p_bn, r_a, r_b, r_vx, bel⟩ hF; have ff4 : RwsP [ZD] (G2 4) (lo2 4) (hi2 4) w' := (hF 4 (List.mem_of_elem_eq_true rfl)).1; exact HN12.out _ _ _ _ (Below.refl _ _) (ff4 0 _ rfl).1 (ff4 0 _ rfl).2
    refine oge_fresh (by rfl) ?_ ?_
    · intro f hf; clear hf; intro w' _; go_simp
    refine oge_nil ?_
    rintro w8 ⟨P8_p, P8_q, P8_bn, ha8, hb8, hvx8, hbw8⟩ hd8 hA
    have hz8 := hbw8.size
    obtain ⟨⟨la3, lb3, lc3, fw3⟩, ld3, ⟨⟨la4, lb4, lc4, fw4⟩, ld4, ⟨⟨la5, lb5, lc5, fw5⟩, ld5, ⟨⟨la6, lb6, lc6, fw6⟩, ld6, -⟩⟩⟩⟩ := hA
    obtain ⟨fa6, fh6⟩ := fw6
    have P8_bo : Bx w8 (lo2 6) [.bool false, .slice none 0 0] := Bx.row fa6
    have v6_p : ¬ (lo2 6) = w.heap.size := by have := P7_p.2; omega
    have vp_6 : ¬ w.heap.size = (lo2 6) := by have := P7_p.2; omega
    have v6_q : ¬ (lo2 6) = (w.heap.size + 1) := by have := P7_q.2; omega
    have vq_6 : ¬ (w.heap.size + 1) = (lo2 6) := by have := P7_q.2; omega
    have v6_bn : ¬ (lo2 6) = w3.heap.size := by have := P7_bn.2; omega
    have vbn_6 : ¬ w3.heap.size = (lo2 6) := by have := P7_bn.2; omega
    have vl6 : w.heap.size ≤ lo2 6 := by omega
    have fa3 : RwsP [ZP] (G2 3) (lo2 3) (hi2 3) w8 := fw3
    have fa4 : RwsP [ZD] (G2 4) (lo2 4) (hi2 4) w8 := fw4
    have fa5 : RwsP [ZO] (G2 5) (lo2 5) (hi2 5) w8 := fw5
    have hox8 : Rw w8 (G2 5 0).1 ZO := (fa5 0 _ rfl).2
    have cap_ox : ZO.length ≤ (G2 5 0).2 := (fa5 0 _ rfl).1
    have qq7_p : w.heap.size < w7.heap.size := P7_p.2
    have qq7_q : (w.heap.size + 1) < w7.heap.size := P7_q.2
    have qq7_bn : w3.heap.size < w7.heap.size := P7_bn.2
    clear P7_p P7_q P7_bn ha7 hb7 hvx7 ld3 fw3 ld4 fw4 ld5 fw5 ld6 lb6 hd8
    have q8_p := P8_p.2
    have q8_q := P8_q.2
    have q8_bn := P8_bn.2
    obtain ⟨⟨k8_bo_0, g8_bo_0⟩, ⟨k8_bo_1, g8_bo_1⟩, x8_bo, y8_bo, q8_bo⟩ := id P8_bo.x2
    simp only [puts, putD, Act.put, List.setIfInBounds_toArray, List.set_cons_zero, List.set_cons_succ]
    go_wp2
    refine wp_region_go0 (fun W => Bx W w.heap.size [.bool s, .slice a l.length c] ∧ Bx W (w.heap.size + 1) [.bool t, .slice b k.length d] ∧ Bx W w3.heap.size [.bool sV, .slice (γ3 0).1 ZV.length (γ3 0).2] ∧ Bx W (lo2 6) [.bool sO, .slice (G2 5 0).1 ZO.length (G2 5 0).2] ∧ Rw W a l ∧ Rw W b k ∧ Rw W (γ3 0).1 ZV ∧ Rw W (G2 5 0).1 ZO ∧ Below w.heap.size w W) 6 144 [kv (.agg #[.bool sO, .slice (G2 5 0).1 ZO.length (G2 5 0).2]), kv (.agg #[.bool sO, .slice (G2 5 0).1 ZO.length (G2 5 0).2]), .made (fun γ => .agg #[.bool sT, .slice (γ 0).1 ZT.length (γ 0).2]) (RwsP [ZT]), kv (.agg #[.bool t, .slice b k.length d]), .made (fun γ => .agg #[.bool sB, .slice (γ 0).1 ZB.length (γ 0).2]) (RwsP [ZB]), km (.int .i64 z)] [[], [], [], [], [], [2, 4]] [2, 4, 5] (by kernel_rfl) (by kernel_rfl) rfl (by kernel_rfl) (by kernel_rfl) (by kernel_rfl) rfl (by repeat' first | exact fits_nil | refine fits_cons ?_ ?_ | exact fit_const _ | exact trueP_fit _ | exact owP_fit _ _ | exact rwsP_fit _ _ | exact rwnP_fit _ _ | exact fit_fresh _ | exact fit_skip) (by rintro w1 w2 ⟨p_p, p_q, p_bn, p_bo, r_a, r_b, r_vx, r_ox, bel⟩ hc; exact ⟨p_p.below hc, p_q.below hc, p_bn.below hc, p_bo.below hc, r_a.below hc, r_b.below hc, r_vx.below hc, r_ox.below hc, bel_step bel hc⟩) ⟨(show Bx _ w.heap.size [.bool s, .slice a l.length c] from (by (with_reducible repeat' first | assumption | exact Bx.new _ _ _ | refine Bx.newAt _ _ _ (by simp; done) | apply Bx.dr | apply Bx.drN | apply Bx.al | refine Bx.st ?_ (by first | assumption | omega | (simp; done) | (simp; omega))))), (show Bx _ (w.heap.size + 1) [.bool t, .slice b k.length d] from (by (with_reducible repeat' first | assumption | exact Bx.new _ _ _ | refine Bx.newAt _ _ _ (by simp; done) | apply Bx.dr | apply Bx.drN | apply Bx.al | refine Bx.st ?_ (by first | assumption | omega | (simp; done) | (simp; omega))))), (show Bx _ w3.heap.size [.bool sV, .slice (γ3 0).1 ZV.length (γ3 0).2] from (by (with_reducible repeat' first | assumption | exact Bx.new _ _ _ | refine Bx.newAt _ _ _ (by simp; done) | apply Bx.dr | apply Bx.drN | apply Bx.al | refine Bx.st ?_ (by first | assumption | omega | (simp; done) | (simp; omega))))), (Bx.of2 (by first | with_reducible assumption | go_simp) (by first | with_reducible assumption | go_simp) (by first | with_reducible assumption | go_simp) (by first | with_reducible assumption | go_simp) : Bx _ (lo2 6) [.bool sO, .slice (G2 5 0).1 ZO.length (G2 5 0).2]), (show Rw _ a l from (by (repeat' first | with_reducible assumption | with_reducible apply Rw.dr | with_reducible apply Rw.drN | with_reducible apply Rw.al | exact Rw.sets (W := w8) (by with_reducible assumption) [((lo2 6), 0, .bool sO), ((lo2 6), 1, .slice (G2 5 0).1 ZO.length (G2 5 0).2)] ⟨⟨_, k8_bo_0, rfl⟩, ⟨_, k8_bo_1, rfl⟩, trivial⟩))), (show Rw _ b k from (by (repeat' first | with_reducible assumption | with_reducible apply Rw.dr | with_reducible apply Rw.drN | with_reducible apply Rw.al | exact Rw.sets (W := w8) (by with_reducible assumption) [((lo2 6), 0, .bool sO), ((lo2 6), 1, .slice (G2 5 0).1 ZO.length (G2 5 0).2)] ⟨⟨_, k8_bo_0, rfl⟩, ⟨_, k8_bo_1, rfl⟩, trivial⟩))), (show Rw _ (γ3 0).1 ZV from (by (repeat' first | with_reducible assumption | with_reducible apply Rw.dr | with_reducible apply Rw.drN | with_reducible apply Rw.al | exact Rw.sets (W := w8) (by with_reducible assumption) [((lo2 6), 0, .bool sO), ((lo2 6), 1, .slice (G2 5 0).1 ZO.length (G2 5 0).2)] ⟨⟨_, k8_bo_0, rfl⟩, ⟨_, k8_bo_1, rfl⟩, trivial⟩))), (show Rw _ (G2 5 0).1 ZO from (by (repeat' first | with_reducible assumption | with_reducible apply Rw.dr | with_reducible apply Rw.drN | with_reducible apply Rw.al | exact Rw.sets (W := w8) (by with_reducible assumption) [((lo2 6), 0, .bool sO), ((lo2 6), 1, .slice (G2 5 0).1 ZO.length (G2 5 0).2)] ⟨⟨_, k8_bo_0, rfl⟩, ⟨_, k8_bo_1, rfl⟩, trivial⟩))), (show Below w.heap.size w _ from (by (with_reducible repeat' first | exact Below.refl _ _ | assumption | apply belA | apply Below.drew | apply below_drewN | refine belS ?_ (by first | omega | (simp; done) | (simp; omega)))))⟩ ?_
    rintro w9 ⟨P9_p, P9_q, P9_bn, P9_bo, ha9, hb9, hvx9, hox9, hbw9⟩ G3 lo3 hi3
    clear P8_p q8_p P8_q q8_q P8_bn q8_bn P8_bo q8_bo k8_bo_0 g8_bo_0 k8_bo_1 g8_bo_1 x8_bo y8_bo ha8 hb8 hvx8 hox8
    have hz9 := hbw9.size
    simp only [List.take_succ_cons, List.take_zero, List.drop_succ_cons, List.drop_zero, List.cons_append, List.nil_append, List.append_nil]
    refine oge_val (by rfl) ?_ ?_
    · exact fun f hf w' h _ => ldI (off := 0) rfl (by rw [← hf]; rfl) (h.2.2.2.1) rfl rfl
    refine oge_val (by rfl) ?_ ?_
    · exact fun f hf w' h _ => ldI (off := 0) rfl (by rw [← hf]; rfl) (h.2.2.2.1) rfl rfl
    refine oge_call 11 #[.agg #[.bool sO, .slice (G2 5 0).1 ZO.length (G2 5 0).2], .agg #[.bool sO, .slice (G2 5 0).1 ZO.length (G2 5 0).2]] (by rfl) ?_ ?_ ?_
    · exact fun f hf w' h _ => cl2 rfl (by rw [← hf]; rfl) (by rw [← hf]; rfl) (by go_simp)
    · rintro w' ⟨p_p, p_q, p_bn, p_bo, r_a, r_b, r_vx, r_ox, bel⟩ hF; exact HN13.out _ _ _ _ _ _ (Below.refl _ _) cap_ox cap_ox r_ox r_ox
    refine oge_val (by rfl) ?_ ?_
    · exact fun f hf w' h _ => ldI (off := 0) rfl (by rw [← hf]; rfl) (h.2.1) rfl rfl
    refine oge_call 23 #[.agg #[.bool t, .slice b k.length d]] (by rfl) ?_ ?_ ?_
    · exact fun f hf w' h _ => cl1 rfl (by rw [← hf]; rfl) (by go_simp)
    · rintro w' ⟨p_p, p_q, p_bn, p_bo, r_a, r_b, r_vx, r_ox, bel⟩ hF; exact HN7.out _ _ _ _ (Below.refl _ _) cap_b r_b
    refine oge_call 8 #[.agg #[.bool sT, .slice (G3 2 0).1 ZT.length (G3 2 0).2], .agg #[.bool sB, .slice (G3 4 0).1 ZB.length (G3 4 0).2]] (by rfl) ?_ ?_ ?_
    · exact fun f hf w' h _ => cl2 rfl (by rw [← hf]; rfl) (by rw [← hf]; rfl) (by go_simp)
    · rintro w' ⟨p_p, p_q, p_bn, p_bo, r_a, r_b, r_vx, r_ox, bel⟩ hF; have ff2 : RwsP [ZT] (G3 2) (lo3 2) (hi3 2) w' := (hF 2 (List.mem_of_elem_eq_true rfl)).1; have ff4 : RwsP [ZB] (G3 4) (lo3 4) (hi3 4) w' := (hF 4 (List.mem_of_elem_eq_true rfl)).1; exact Calls.mono (HN14.out _ _ _ _ _ _ (Below.refl _ _) (ff2 0 _ rfl).1 (ff4 0 _ rfl).1 (ff2 0 _ rfl).2 (ff4 0 _ rfl).2) (fun _ _ h => AnsR.fix h)
    refine oge_nil ?_
    rintro w10 ⟨P10_p, P10_q, P10_bn, P10_bo, ha10, hb10, hvx10, hox10, hbw10⟩ hd10 hA
    have hz10 := hbw10.size
    obtain ⟨⟨la2, lb2, lc2, fw2⟩, ld2, ⟨⟨la4, lb4, lc4, fw4⟩, ld4, ⟨⟨la5, lb5, lc5, fw5⟩, ld5, -⟩⟩⟩ := hA
    have fa2 : RwsP [ZT] (G3 2) (lo3 2) (hi3 2) w10 := fw2
    have fa4 : RwsP [ZB] (G3 4) (lo3 4) (hi3 4) w10 := fw4
    have qq9_p : w.heap.size < w9.heap.size := P9_p.2
    have qq9_q : (w.heap.size + 1) < w9.heap.size := P9_q.2
    have qq9_bn : w3.heap.size < w9.heap.size := P9_bn.2
    have qq9_bo : (lo2 6) < w9.heap.size := P9_bo.2
    clear P9_p P9_q P9_bn P9_bo ha9 hb9 hvx9 hox9 ld2 fw2 ld4 fw4 ld5 fw5 hd10
    have q10_p := P10_p.2
    have q10_q := P10_q.2
    have q10_bn := P10_bn.2
    have q10_bo := P10_bo.2
    simp only [puts, putD, Act.put, List.setIfInBounds_toArray, List.set_cons_zero, List.set_cons_succ]
    go_wp2
    refine Late.wp_region_late (fun W => Bx W w.heap.size [.bool s, .slice a l.length c] ∧ Bx W (w.heap.size + 1) [.bool t, .slice b k.length d] ∧ Bx W w3.heap.size [.bool sV, .slice (γ3 0).1 ZV.length (γ3 0).2] ∧ Rw W a l ∧ Rw W b k ∧ Rw W (γ3 0).1 ZV ∧ Below w.heap.size w W) 10 144 [.val [] (fun G4 lo4 => .agg #[.bool s, .slice a l.length c]), .made (fun γ => .agg #[.bool sNA, .slice (γ 0).1 ZNA.length (γ 0).2]) (Late.RwsL [ZNA]), .val [] (fun G4 lo4 => .agg #[.bool t, .slice b k.length d]), .made (fun γ => .agg #[.bool sNB, .slice (γ 0).1 ZNB.length (γ 0).2]) (Late.RwsL [ZNB]), .made (fun γ => .tuple #[.agg #[.bool sV, .slice (γ 0).1 ZV.length (γ 0).2], .int .i64 0]) (Late.RwsL [ZV]), .val [4] (fun G4 lo4 => .tuple #[.agg #[.bool sV, .slice (G4 4 0).1 ZV.length (G4 4 0).2], .int .i64 0]), .val [4] (fun G4 lo4 => .agg #[.bool sV, .slice (G4 4 0).1 ZV.length (G4 4 0).2]), .val [] (fun G4 lo4 => .int .i64 0), .late (.cells ([Value.bool false, Value.slice none 0 0] : List Value).toArray 24) 2, .store 8 [4, 8] (fun G4 lo4 => [.bool sV, .slice (G4 4 0).1 ZV.length (G4 4 0).2])] [[], [], [], [], [1, 3], [4], [4, 5], [], [], [4, 8]] [8] [1, 3, 4, 9] (by kernel_rfl) (by kernel_rfl) rfl (by kernel_rfl) (by kernel_rfl) (by kernel_rfl) (by kernel_rfl) (by kernel_rfl) rfl ⟨fun _ _ _ _ _ => rfl, Late.fit_rwsL _ _, fun _ _ _ _ _ => rfl, Late.fit_rwsL _ _, Late.fit_rwsL _ _, fun Ga Gb la lb hh => by simp only [(hh 4 (by simp)).1, (hh 4 (by simp)).2], fun Ga Gb la lb hh => by simp only [(hh 4 (by simp)).1, (hh 4 (by simp)).2], fun _ _ _ _ _ => rfl, trivial, ⟨by simp, fun Ga Gb la lb hh => by simp only [(hh 4 (by simp)).1, (hh 4 (by simp)).2, (hh 8 (by simp)).1, (hh 8 (by simp)).2]⟩, trivial⟩ ⟨fun _ _ => ⟨rfl, rfl⟩, trivial⟩ (by rintro w1 w2 ⟨p_p, p_q, p_bn, r_a, r_b, r_vx, bel⟩ hc; exact ⟨p_p.below hc, p_q.below hc, p_bn.below hc, r_a.below hc, r_b.below hc, r_vx.below hc, bel_step bel hc⟩) (show (fun W => Bx W w.heap.size [.bool s, .slice a l.length c] ∧ Bx W (w.heap.size + 1) [.bool t, .slice b k.length d] ∧ Bx W w3.heap.size [.bool sV, .slice (γ3 0).1 ZV.length (γ3 0).2] ∧ Rw W a l ∧ Rw W b k ∧ Rw W (γ3 0).1 ZV ∧ Below w.heap.size w W) w10 from ⟨P10_p, P10_q, P10_bn, ha10, hb10, hvx10, hbw10⟩) (by (with_reducible repeat' first | exact Below.refl _ _ | assumption | apply belA | apply Below.drew | apply below_drewN | refine belS ?_ (by first | omega | (simp; done) | (simp; omega)))) ?_
    rintro w11 ⟨P11_p, P11_q, P11_bn, ha11, hb11, hvx11, hbw11⟩ G4 lo4
    clear P10_p q10_p P10_q q10_q P10_bn q10_bn ha10 hb10 hvx10
    have hz11 := hbw11.size
    simp only [List.take_succ_cons, List.take_zero, List.drop_succ_cons, List.drop_zero, List.cons_append, List.nil_append, List.append_nil]
    refine Late.oge_val (by rfl) ?_ ?_
    · exact fun f hf w' h _ => ldI (off := 0) rfl (by rw [← hf]; rfl) (h.1) rfl rfl
    refine Late.oge_call 10 #[.agg #[.bool s, .slice a l.length c]] (by rfl) ?_ ?_ ?_
    · exact fun f hf w' h _ => cl1 rfl (by rw [← hf]; rfl) (by go_simp)
    · rintro w' ⟨p_p, p_q, p_bn, r_a, r_b, r_vx, bel⟩ hF; exact (HN16.out _ _ _ _ (Below.refl _ _) cap_a r_a).mono fun _ _ h => AnsR.late h
    refine Late.oge_val (by rfl) ?_ ?_
    · exact fun f hf w' h _ => ldI (off := 0) rfl (by rw [← hf]; rfl) (h.2.1) rfl rfl
    refine Late.oge_call 10 #[.agg #[.bool t, .slice b k.length d]] (by rfl) ?_ ?_ ?_
    · exact fun f hf w' h _ => cl1 rfl (by rw [← hf]; rfl) (by go_simp)
    · rintro w' ⟨p_p, p_q, p_bn, r_a, r_b, r_vx, bel⟩ hF; exact (HN17.out _ _ _ _ (Below.refl _ _) cap_b r_b).mono fun _ _ h => AnsR.late h
    refine Late.oge_call 21 #[.agg #[.bool sNA, .slice (G4 1 0).1 ZNA.length (G4 1 0).2], .agg #[.bool sNB, .slice (G4 3 0).1 ZNB.length (G4 3 0).2]] (by rfl) ?_ ?_ ?_
    · exact fun f hf w' h _ => cl2 rfl (by rw [← hf]; rfl) (by rw [← hf]; rfl) (by go_simp)
    · rintro w' ⟨p_p, p_q, p_bn, r_a, r_b, r_vx, bel⟩ hF; have ff1 : Late.RwsL [ZNA] (G4 1) w' := hF 1 (List.mem_of_elem_eq_true rfl); have ff3 : Late.RwsL [ZNB] (G4 3) w' := hF 3 (List.mem_of_elem_eq_true rfl); exact (HN15.out _ _ _ _ _ _ (Below.refl _ _) (ff1 0 _ rfl).1 (ff3 0 _ rfl).1 (ff1 0 _ rfl).2 (ff3 0 _ rfl).2).mono fun _ _ h => AnsR.late h
    refine Late.oge_val (by rfl) ?_ ?_
    · exact fun f hf w' h _ => mv rfl (by rw [← hf]; rfl)
    refine Late.oge_val (by rfl) ?_ ?_
    · intro f hf; have u108 : f 108 = (.tuple #[.agg #[.bool sV, .slice (G4 4 0).1 ZV.length (G4 4 0).2], .int .i64 0]) := (by rw [← hf]; rfl); clear hf; intro w' h _; clear h; go_simp
    refine Late.oge_val (by rfl) ?_ ?_
    · intro f hf; have u108 : f 108 = (.tuple #[.agg #[.bool sV, .slice (G4 4 0).1 ZV.length (G4 4 0).2], .int .i64 0]) := (by rw [← hf]; rfl); clear hf; intro w' h _; clear h; go_simp
    refine Late.oge_late rfl rfl (by rfl) ?_ ?_
    · intro f hf; clear hf; intro w' _; go_simp
    refine Late.oge_store (by rfl) rfl ?_ ?_
    · exact fun f hf w' h hF => stI rfl (by rw [← hf]; rfl) (by rw [← hf]; rfl) (hF 8 (List.mem_of_elem_eq_true rfl))
    refine Late.oge_nil ?_
    rintro w12 ⟨P12_p, P12_q, P12_bn, ha12, hb12, hvx12, hbw12⟩ hd12 hA hT
    have hz12 := hbw12.size
    obtain ⟨la8, ld8, -⟩ := hA
    obtain ⟨⟨tt1, tf1⟩, ⟨tt3, tf3⟩, ⟨tt4, tf4⟩, ⟨tt9, tf9⟩, -⟩ := hT
    have P12_bm : Bx w12 (lo4 8) [.bool sV, .slice (G4 4 0).1 ZV.length (G4 4 0).2] := tt9
    have v8_p : ¬ (lo4 8) = w.heap.size := by have := P11_p.2; omega
    have vp_8 : ¬ w.heap.size = (lo4 8) := by have := P11_p.2; omega
    have v8_q : ¬ (lo4 8) = (w.heap.size + 1) := by have := P11_q.2; omega
    have vq_8 : ¬ (w.heap.size + 1) = (lo4 8) := by have := P11_q.2; omega
    have v8_bn : ¬ (lo4 8) = w3.heap.size := by have := P11_bn.2; omega
    have vbn_8 : ¬ w3.heap.size = (lo4 8) := by have := P11_bn.2; omega
    have vl8 : w.heap.size ≤ lo4 8 := by omega
    have fa1 : Late.RwsL [ZNA] (G4 1) w12 := tf1
    have fa3 : Late.RwsL [ZNB] (G4 3) w12 := tf3
    have fa4 : Late.RwsL [ZV] (G4 4) w12 := tf4
    have hwx12 : Rw w12 (G4 4 0).1 ZV := (fa4 0 _ rfl).2
    have cap_wx : ZV.length ≤ (G4 4 0).2 := (fa4 0 _ rfl).1
    have qq11_p : w.heap.size < w11.heap.size := P11_p.2
    have qq11_q : (w.heap.size + 1) < w11.heap.size := P11_q.2
    have qq11_bn : w3.heap.size < w11.heap.size := P11_bn.2
    clear P11_p P11_q P11_bn ha11 hb11 hvx11 ld8 tt1 tf1 tt3 tf3 tt4 tf4 tt9 tf9 hd12
    have q12_p := P12_p.2
    have q12_q := P12_q.2
    have q12_bn := P12_bn.2
    obtain ⟨⟨k12_bm_0, g12_bm_0⟩, ⟨k12_bm_1, g12_bm_1⟩, x12_bm, y12_bm, q12_bm⟩ := id P12_bm.x2
    simp only [puts, putD, Act.put, List.setIfInBounds_toArray, List.set_cons_zero, List.set_cons_succ]
    go_wp2
    rcases F2.out with f6 | ⟨f6, f7⟩
    focus
      clear F2
      subst f6
      refine wp_region_go1 (fun W => Bx W w.heap.size [.bool s, .slice a l.length c] ∧ Bx W (w.heap.size + 1) [.bool t, .slice b k.length d] ∧ Bx W w3.heap.size [.bool sV, .slice (γ3 0).1 ZV.length (γ3 0).2] ∧ Bx W (lo4 8) [.bool sV, .slice (G4 4 0).1 ZV.length (G4 4 0).2] ∧ Rw W a l ∧ Rw W b k ∧ Rw W (γ3 0).1 ZV ∧ Rw W (G4 4 0).1 ZV ∧ Below w.heap.size w W) 28 144 [kv (.int .i64 (-1)), kv (.bool true), kv (.bool true), kv (.int .i64 (-1)), kv (.bool true), kv (.bool true), .skip, .skip, .skip, .skip, .skip, .skip, .skip, .skip, kv (.bool true), kv (.bool true), kv (.bool true), kv (.agg #[.bool sV, .slice (G4 4 0).1 ZV.length (G4 4 0).2]), kv (.agg #[.bool sV, .slice (γ3 0).1 ZV.length (γ3 0).2]), km (.bool true), kv (.bool true), kv (.bool true), kv (.int .i64 0), kv (.bool true), kv (.bool true), kv (.bool true), km (.bool true), kv (.bool true)] [[], [], [], [], [], [], [], [], [], [], [], [], [], [], [], [], [], [], [], [], [], [], [], [], [], [], [], []] [19, 26] (by kernel_rfl) (by kernel_rfl) rfl (by kernel_rfl) (by kernel_rfl) (by kernel_rfl) rfl (by repeat' first | exact fits_nil | refine fits_cons ?_ ?_ | exact fit_const _ | exact trueP_fit _ | exact owP_fit _ _ | exact rwsP_fit _ _ | exact rwnP_fit _ _ | exact fit_fresh _ | exact fit_skip) (by rintro w1 w2 ⟨p_p, p_q, p_bn, p_bm, r_a, r_b, r_vx, r_wx, bel⟩ hc; exact ⟨p_p.below hc, p_q.below hc, p_bn.below hc, p_bm.below hc, r_a.below hc, r_b.below hc, r_vx.below hc, r_wx.below hc, bel_step bel hc⟩) (⟨P12_p, P12_q, P12_bn, P12_bm, ha12, hb12, hvx12, hwx12, hbw12⟩) (by (with_reducible repeat' first | exact Below.refl _ _ | assumption | apply belA | apply Below.drew | apply below_drewN | refine belS ?_ (by first | omega | (simp; done) | (simp; omega)))) ?_
      rintro w13 ⟨P13_p, P13_q, P13_bn, P13_bm, ha13, hb13, hvx13, hwx13, hbw13⟩ G5 lo5 hi5
      clear P12_p q12_p P12_q q12_q P12_bn q12_bn P12_bm q12_bm k12_bm_0 g12_bm_0 k12_bm_1 g12_bm_1 x12_bm y12_bm ha12 hb12 hvx12 hwx12
      have hz13 := hbw13.size
      simp only [List.take_succ_cons, List.take_zero, List.drop_succ_cons, List.drop_zero, List.cons_append, List.nil_append, List.append_nil]
      refine oge_val (by rfl) ?_ ?_
      · exact fun f hf w' h _ => mv rfl (by rw [← hf]; rfl)
      refine oge_val (by rfl) ?_ ?_
      · intro f hf; have u116 : f 116 = (.int .i64 (-1)) := (by rw [← hf]; rfl); clear hf; intro w' h _; clear h; go_simp
      refine oge_val (by rfl) ?_ ?_
      · exact fun f hf w' h _ => mv rfl (by rw [← hf]; rfl)
      refine oge_val (by rfl) ?_ ?_
      · exact fun f hf w' h _ => mv rfl (by rw [← hf]; rfl)
      refine oge_val (by rfl) ?_ ?_
      · intro f hf; have u119 : f 119 = (.int .i64 (-1)) := (by rw [← hf]; rfl); clear hf; intro w' h _; clear h; go_simp
      refine oge_val (by rfl) ?_ ?_
      · exact fun f hf w' h _ => mv rfl (by rw [← hf]; rfl)
      refine oge_skip (by rfl) ?_
      refine oge_skip (by rfl) ?_
      refine oge_skip (by rfl) ?_
      refine oge_skip (by rfl) ?_
      refine oge_skip (by rfl) ?_
      refine oge_skip (by rfl) ?_
      refine oge_skip (by rfl) ?_
      refine oge_skip (by rfl) ?_
      refine oge_val (by rfl) ?_ ?_
      · exact fun f hf w' h _ => pkT rfl (by rw [← hf]; rfl) (by rw [← hf]; rfl)
      refine oge_val (by rfl) ?_ ?_
      · exact fun f hf w' h _ => pkT rfl (by rw [← hf]; rfl) (by rw [← hf]; rfl)
      refine oge_val (by rfl) ?_ ?_
      · exact fun f hf w' h _ => mv rfl (by rw [← hf]; rfl)
      refine oge_val (by rfl) ?_ ?_
      · exact fun f hf w' h _ => ldI (off := 0) rfl (by rw [← hf]; rfl) (h.2.2.2.1) rfl rfl
      refine oge_val (by rfl) ?_ ?_
      · exact fun f hf w' h _ => ldI (off := 0) rfl (by rw [← hf]; rfl) (h.2.2.1) rfl rfl
      refine oge_call 18 #[.agg #[.bool sV, .slice (G4 4 0).1 ZV.length (G4 4 0).2], .agg #[.bool sV, .slice (γ3 0).1 ZV.length (γ3 0).2]] (by rfl) ?_ ?_ ?_
      · exact fun f hf w' h _ => cl2 rfl (by rw [← hf]; rfl) (by rw [← hf]; rfl) (by go_simp)
      · rintro w' ⟨p_p, p_q, p_bn, p_bm, r_a, r_b, r_vx, r_wx, bel⟩ hF; exact Calls.mono (HN18.out _ _ _ _ _ _ (Below.refl _ _) r_wx r_vx) (fun _ _ h => AnsR.fix h)
      refine oge_val (by rfl) ?_ ?_
      · exact fun f hf w' h _ => pkT rfl (by rw [← hf]; rfl) (by rw [← hf]; rfl)
      refine oge_val (by rfl) ?_ ?_
      · exact fun f hf w' h _ => mv rfl (by rw [← hf]; rfl)
      refine oge_val (by rfl) ?_ ?_
      · exact fun f hf w' h _ => mv rfl (by rw [← hf]; rfl)
      refine oge_val (by rfl) ?_ ?_
      · intro f hf; have u138 : f 138 = (.int .i64 0) := (by rw [← hf]; rfl); clear hf; intro w' h _; clear h; go_simp
      refine oge_val (by rfl) ?_ ?_
      · exact fun f hf w' h _ => pkT rfl (by rw [← hf]; rfl) (by rw [← hf]; rfl)
      refine oge_val (by rfl) ?_ ?_
      · exact fun f hf w' h _ => mv rfl (by rw [← hf]; rfl)
      refine oge_call 6 #[] (by rfl) ?_ ?_ ?_
      · exact fun f hf w' h _ => cl0 rfl (by go_simp)
      · rintro w' ⟨p_p, p_q, p_bn, p_bm, r_a, r_b, r_vx, r_wx, bel⟩ hF; exact Calls.mono (example_any _ (hN.below bel)) (fun _ _ h => AnsR.fix h)
      refine oge_val (by rfl) ?_ ?_
      · exact fun f hf w' h _ => pkT rfl (by rw [← hf]; rfl) (by rw [← hf]; rfl)
      refine oge_nil ?_
      rintro w14 ⟨P14_p, P14_q, P14_bn, P14_bm, ha14, hb14, hvx14, hwx14, hbw14⟩ hd14 hA
      have hz14 := hbw14.size
      obtain ⟨⟨la19, lb19, lc19, fw19⟩, ld19, ⟨⟨la26, lb26, lc26, fw26⟩, ld26, -⟩⟩ := hA
      have qq13_p : w.heap.size < w13.heap.size := P13_p.2
      have qq13_q : (w.heap.size + 1) < w13.heap.size := P13_q.2
      have qq13_bn : w3.heap.size < w13.heap.size := P13_bn.2
      have qq13_bm : (lo4 8) < w13.heap.size := P13_bm.2
      clear P13_p P13_q P13_bn P13_bm ha13 hb13 hvx13 hwx13 ld19 fw19 ld26 fw26 hd14
      have q14_p := P14_p.2
      have q14_q := P14_q.2
      have q14_bn := P14_bn.2
      have q14_bm := P14_bm.2
      simp only [puts, putD, Act.put, List.setIfInBounds_toArray, List.set_cons_zero, List.set_cons_succ]
      go_wp2
      go_ret
      exact ⟨rfl, by (with_reducible repeat' first | exact Below.refl _ _ | assumption | apply belA | apply Below.drew | apply below_drewN | refine belS ?_ (by first | omega | (simp; done) | (simp; omega)))⟩
    focus
      clear F2
      subst f6
      have f8 : decide (0 < z6) = true := f7
      refine wp_region_go1 (fun W => Bx W w.heap.size [.bool s, .slice a l.length c] ∧ Bx W (w.heap.size + 1) [.bool t, .slice b k.length d] ∧ Bx W w3.heap.size [.bool sV, .slice (γ3 0).1 ZV.length (γ3 0).2] ∧ Bx W (lo4 8) [.bool sV, .slice (G4 4 0).1 ZV.length (G4 4 0).2] ∧ Rw W a l ∧ Rw W b k ∧ Rw W (γ3 0).1 ZV ∧ Rw W (G4 4 0).1 ZV ∧ Below w.heap.size w W) 28 144 [kv (.int .i64 0), kv (.bool true), kv (.bool true), kv (.int .i64 0), kv (.bool false), kv (.bool false), kv (.agg #[.bool sV, .slice (γ3 0).1 ZV.length (γ3 0).2]), kv (.agg #[.bool t, .slice b k.length d]), .made (fun γ => .agg #[.bool sP, .slice (γ 0).1 ZP.length (γ 0).2]) (RwsP [ZP]), .made (fun γ => .agg #[.bool sF, .slice (γ 0).1 ZF.length (γ 0).2]) (RwsP [ZF]), kv (.agg #[.bool s, .slice a l.length c]), .made (fun γ => .agg #[.bool sG, .slice (γ 0).1 ZG.length (γ 0).2]) (RwsP [ZG]), km (.int .i64 z6), kv (.bool true), kv (.bool true), kv (.bool true), kv (.bool true), kv (.agg #[.bool sV, .slice (G4 4 0).1 ZV.length (G4 4 0).2]), kv (.agg #[.bool sV, .slice (γ3 0).1 ZV.length (γ3 0).2]), km (.bool true), kv (.bool true), kv (.bool true), kv (.int .i64 0), kv (.bool true), kv (.bool true), kv (.bool true), km (.bool true), kv (.bool true)] [[], [], [], [], [], [], [], [], [], [8], [], [], [9, 11], [], [], [], [], [], [], [], [], [], [], [], [], [], [], []] [8, 9, 11, 12, 19, 26] (by kernel_rfl) (by kernel_rfl) rfl (by kernel_rfl) (by kernel_rfl) (by kernel_rfl) rfl (by repeat' first | exact fits_nil | refine fits_cons ?_ ?_ | exact fit_const _ | exact trueP_fit _ | exact owP_fit _ _ | exact rwsP_fit _ _ | exact rwnP_fit _ _ | exact fit_fresh _ | exact fit_skip) (by rintro w1 w2 ⟨p_p, p_q, p_bn, p_bm, r_a, r_b, r_vx, r_wx, bel⟩ hc; exact ⟨p_p.below hc, p_q.below hc, p_bn.below hc, p_bm.below hc, r_a.below hc, r_b.below hc, r_vx.below hc, r_wx.below hc, bel_step bel hc⟩) (⟨P12_p, P12_q, P12_bn, P12_bm, ha12, hb12, hvx12, hwx12, hbw12⟩) (by (with_reducible repeat' first | exact Below.refl _ _ | assumption | apply belA | apply Below.drew | apply below_drewN | refine belS ?_ (by first | omega | (simp; done) | (simp; omega)))) ?_
      rintro w13 ⟨P13_p, P13_q, P13_bn, P13_bm, ha13, hb13, hvx13, hwx13, hbw13⟩ G5 lo5 hi5
      clear P12_p q12_p P12_q q12_q P12_bn q12_bn P12_bm q12_bm k12_bm_0 g12_bm_0 k12_bm_1 g12_bm_1 x12_bm y12_bm ha12 hb12 hvx12 hwx12
      have hz13 := hbw13.size
      simp only [List.take_succ_cons, List.take_zero, List.drop_succ_cons, List.drop_zero, List.cons_append, List.nil_append, List.append_nil]
      refine oge_val (by rfl) ?_ ?_
      · exact fun f hf w' h _ => mv rfl (by rw [← hf]; rfl)
      refine oge_val (by rfl) ?_ ?_
      · intro f hf; have u116 : f 116 = (.int .i64 0) := (by rw [← hf]; rfl); clear hf; intro w' h _; clear h; go_simp
      refine oge_val (by rfl) ?_ ?_
      · exact fun f hf w' h _ => mv rfl (by rw [← hf]; rfl)
      refine oge_val (by rfl) ?_ ?_
      · exact fun f hf w' h _ => mv rfl (by rw [← hf]; rfl)
      refine oge_val (by rfl) ?_ ?_
      · intro f hf; have u119 : f 119 = (.int .i64 0) := (by rw [← hf]; rfl); clear hf; intro w' h _; clear h; go_simp
      refine oge_val (by rfl) ?_ ?_
      · exact fun f hf w' h _ => mv rfl (by rw [← hf]; rfl)
      refine oge_val (by rfl) ?_ ?_
      · exact fun f hf w' h _ => ldI (off := 0) rfl (by rw [← hf]; rfl) (h.2.2.1) rfl rfl
      refine oge_val (by rfl) ?_ ?_
      · exact fun f hf w' h _ => ldI (off := 0) rfl (by rw [← hf]; rfl) (h.2.1) rfl rfl
      refine oge_call 13 #[.agg #[.bool sV, .slice (γ3 0).1 ZV.length (γ3 0).2], .agg #[.bool t, .slice b k.length d]] (by rfl) ?_ ?_ ?_
      · exact fun f hf w' h _ => cl2 rfl (by rw [← hf]; rfl) (by rw [← hf]; rfl) (by go_simp)
      · rintro w' ⟨p_p, p_q, p_bn, p_bm, r_a, r_b, r_vx, r_wx, bel⟩ hF; exact HN10.out _ _ _ _ _ _ (Below.refl _ _) cap_vx cap_b r_vx r_b
      refine oge_call 23 #[.agg #[.bool sP, .slice (G5 8 0).1 ZP.length (G5 8 0).2]] (by rfl) ?_ ?_ ?_
      · exact fun f hf w' h _ => cl1 rfl (by rw [← hf]; rfl) (by go_simp)
      · rintro w' ⟨p_p, p_q, p_bn, p_bm, r_a, r_b, r_vx, r_wx, bel⟩ hF; have ff8 : RwsP [ZP] (G5 8) (lo5 8) (hi5 8) w' := (hF 8 (List.mem_of_elem_eq_true rfl)).1; exact HN19.out _ _ _ _ (Below.refl _ _) (ff8 0 _ rfl).1 (ff8 0 _ rfl).2
      refine oge_val (by rfl) ?_ ?_
      · exact fun f hf w' h _ => ldI (off := 0) rfl (by rw [← hf]; rfl) (h.1) rfl rfl
      refine oge_call 23 #[.agg #[.bool s, .slice a l.length c]] (by rfl) ?_ ?_ ?_
      · exact fun f hf w' h _ => cl1 rfl (by rw [← hf]; rfl) (by go_simp)
      · rintro w' ⟨p_p, p_q, p_bn, p_bm, r_a, r_b, r_vx, r_wx, bel⟩ hF; exact HN20.out _ _ _ _ (Below.refl _ _) cap_a r_a
      refine oge_call 8 #[.agg #[.bool sF, .slice (G5 9 0).1 ZF.length (G5 9 0).2], .agg #[.bool sG, .slice (G5 11 0).1 ZG.length (G5 11 0).2]] (by rfl) ?_ ?_ ?_
      · exact fun f hf w' h _ => cl2 rfl (by rw [← hf]; rfl) (by rw [← hf]; rfl) (by go_simp)
      · rintro w' ⟨p_p, p_q, p_bn, p_bm, r_a, r_b, r_vx, r_wx, bel⟩ hF; have ff9 : RwsP [ZF] (G5 9) (lo5 9) (hi5 9) w' := (hF 9 (List.mem_of_elem_eq_true rfl)).1; have ff11 : RwsP [ZG] (G5 11) (lo5 11) (hi5 11) w' := (hF 11 (List.mem_of_elem_eq_true rfl)).1; exact Calls.mono (HN21.out _ _ _ _ _ _ (Below.refl _ _) (ff9 0 _ rfl).1 (ff11 0 _ rfl).1 (ff9 0 _ rfl).2 (ff11 0 _ rfl).2) (fun _ _ h => AnsR.fix h)
      refine oge_val (by rfl) ?_ ?_
      · intro f hf; have u128 : f 128 = (.int .i64 z6) := (by rw [← hf]; rfl); clear hf; intro w' h _; clear h; go_simp
      refine oge_val (by rfl) ?_ ?_
      · exact fun f hf w' h _ => pkF rfl (by rw [← hf]; rfl) (by rw [← hf]; rfl)
      refine oge_val (by rfl) ?_ ?_
      · exact fun f hf w' h _ => pkT rfl (by rw [← hf]; rfl) (by rw [← hf]; rfl)
      refine oge_val (by rfl) ?_ ?_
      · exact fun f hf w' h _ => mv rfl (by rw [← hf]; rfl)
      refine oge_val (by rfl) ?_ ?_
      · exact fun f hf w' h _ => ldI (off := 0) rfl (by rw [← hf]; rfl) (h.2.2.2.1) rfl rfl
      refine oge_val (by rfl) ?_ ?_
      · exact fun f hf w' h _ => ldI (off := 0) rfl (by rw [← hf]; rfl) (h.2.2.1) rfl rfl
      refine oge_call 18 #[.agg #[.bool sV, .slice (G4 4 0).1 ZV.length (G4 4 0).2], .agg #[.bool sV, .slice (γ3 0).1 ZV.length (γ3 0).2]] (by rfl) ?_ ?_ ?_
      · exact fun f hf w' h _ => cl2 rfl (by rw [← hf]; rfl) (by rw [← hf]; rfl) (by go_simp)
      · rintro w' ⟨p_p, p_q, p_bn, p_bm, r_a, r_b, r_vx, r_wx, bel⟩ hF; exact Calls.mono (HN18.out _ _ _ _ _ _ (Below.refl _ _) r_wx r_vx) (fun _ _ h => AnsR.fix h)
      refine oge_val (by rfl) ?_ ?_
      · exact fun f hf w' h _ => pkT rfl (by rw [← hf]; rfl) (by rw [← hf]; rfl)
      refine oge_val (by rfl) ?_ ?_
      · exact fun f hf w' h _ => mv rfl (by rw [← hf]; rfl)
      refine oge_val (by rfl) ?_ ?_
      · exact fun f hf w' h _ => mv rfl (by rw [← hf]; rfl)
      refine oge_val (by rfl) ?_ ?_
      · intro f hf; have u138 : f 138 = (.int .i64 0) := (by rw [← hf]; rfl); clear hf; intro w' h _; clear h; go_simp
      refine oge_val (by rfl) ?_ ?_
      · exact fun f hf w' h _ => pkT rfl (by rw [← hf]; rfl) (by rw [← hf]; rfl)
      refine oge_val (by rfl) ?_ ?_
      · exact fun f hf w' h _ => mv rfl (by rw [← hf]; rfl)
      refine oge_call 6 #[] (by rfl) ?_ ?_ ?_
      · exact fun f hf w' h _ => cl0 rfl (by go_simp)
      · rintro w' ⟨p_p, p_q, p_bn, p_bm, r_a, r_b, r_vx, r_wx, bel⟩ hF; exact Calls.mono (example_any _ (hN.below bel)) (fun _ _ h => AnsR.fix h)
      refine oge_val (by rfl) ?_ ?_
      · exact fun f hf w' h _ => pkT rfl (by rw [← hf]; rfl) (by rw [← hf]; rfl)
      refine oge_nil ?_
      rintro w14 ⟨P14_p, P14_q, P14_bn, P14_bm, ha14, hb14, hvx14, hwx14, hbw14⟩ hd14 hA
      have hz14 := hbw14.size
      obtain ⟨⟨la8, lb8, lc8, fw8⟩, ld8, ⟨⟨la9, lb9, lc9, fw9⟩, ld9, ⟨⟨la11, lb11, lc11, fw11⟩, ld11, ⟨⟨la12, lb12, lc12, fw12⟩, ld12, ⟨⟨la19, lb19, lc19, fw19⟩, ld19, ⟨⟨la26, lb26, lc26, fw26⟩, ld26, -⟩⟩⟩⟩⟩⟩ := hA
      have fa8 : RwsP [ZP] (G5 8) (lo5 8) (hi5 8) w14 := fw8
      have fa9 : RwsP [ZF] (G5 9) (lo5 9) (hi5 9) w14 := fw9
      have fa11 : RwsP [ZG] (G5 11) (lo5 11) (hi5 11) w14 := fw11
      have qq13_p : w.heap.size < w13.heap.size := P13_p.2
      have qq13_q : (w.heap.size + 1) < w13.heap.size := P13_q.2
      have qq13_bn : w3.heap.size < w13.heap.size := P13_bn.2
      have qq13_bm : (lo4 8) < w13.heap.size := P13_bm.2
      clear P13_p P13_q P13_bn P13_bm ha13 hb13 hvx13 hwx13 ld8 fw8 ld9 fw9 ld11 fw11 ld12 fw12 ld19 fw19 ld26 fw26 hd14
      have q14_p := P14_p.2
      have q14_q := P14_q.2
      have q14_bn := P14_bn.2
      have q14_bm := P14_bm.2
      simp only [puts, putD, Act.put, List.setIfInBounds_toArray, List.set_cons_zero, List.set_cons_succ]
      go_wp2
      go_ret
      exact ⟨rfl, by (with_reducible repeat' first | exact Below.refl _ _ | assumption | apply belA | apply Below.drew | apply below_drewN | refine belS ?_ (by first | omega | (simp; done) | (simp; omega)))⟩
end Go.Proofs.YtcofiekfhnfjpaaDoor
