
import Derived.Test.YthofacdiajhjmaaV2
import Derived.WalkKit
import Derived.WalkSpells
import Derived.WalkLawsBesides
import Derived.Lib.Hide
import Derived.Below
import Derived.Deep.QuietTactic
import Derived.BigQuiet
import Derived.Deep.RegionHeld3
import Derived.Deep.DrawnRows
import Derived.Deep.DeepFit
import Derived.IntWalk
namespace Go.Proofs.Ythofacdiajhjmaa
open Go.RowKit
set_option linter.unusedVariables false
set_option linter.unusedSimpArgs false
attribute [local go_sem ↓] Go.wp_at_zero Go.wp_at_succ
def vB (x y : Int) : Bool := (hold x == x) && (hold y == y)
theorem vB_iff (x y : Int) : vB x y = true ↔ (-1048576 ≤ x ∧ x ≤ 1048576) ∧ (-1048576 ≤ y ∧ y ≤ 1048576) := by
  unfold vB
  rw [Bool.and_eq_true, beq_iff_eq, beq_iff_eq, hold_eq, hold_eq]
theorem vB_false (x y : Int) (h : ¬ ((-1048576 ≤ x ∧ x ≤ 1048576) ∧ (-1048576 ≤ y ∧ y ≤ 1048576))) : vB x y = false := by
  cases e : vB x y with
  | false => rfl
  | true => exact absurd ((vB_iff x y).1 e) h
def lessB (x y u v : Int) : Bool := decide (hold y < hold v) || (decide (hold y = hold v) && decide (hold x < hold u))
def oriV (x y u v s t : Int) : Int := sgn3 (crs (hold x) (hold y) (hold u) (hold v) (hold s) (hold t))
def onsB (x y u v s t : Int) : Bool := decide (oriV x y u v s t = 0) && decide (dotp (hold x) (hold y) (hold u) (hold v) (hold s) (hold t) ≤ 0)

set_option maxHeartbeats 1000000 in
theorem vvalid_any (x y : Int) (w : World) :
    Calls Try.prog 36 #[.agg #[.int .i64 x, .int .i64 y]] w fun e w' => e = .returned (.bool (vB x y)) ∧ Below w.heap.size w w' := by
  by_cases h1 : hold x = x
  · have e1 : (hold x == x) = true := by simp [h1]
    by_cases h2 : hold y = y
    · have e2 : (hold y == y) = true := by simp [h2]
      have e : vB x y = true := by simp [vB, h1, h2]
      rw [e]; clear e h1 h2
      go_enter Try.func36, Try.ntmps36
      go_wp2
      refine wp_region_ord (fun w' => w'.cell? ⟨w.heap.size, 0, none⟩ = some (.int .i64 x) ∧ w'.frozen? ⟨w.heap.size, 0, none⟩ = false ∧ w'.cell? ⟨w.heap.size, 1, none⟩ = some (.int .i64 y) ∧ w'.frozen? ⟨w.heap.size, 1, none⟩ = false) (fun W => W.cell? ⟨w.heap.size, 0, none⟩ = some (.int .i64 x) ∧ W.frozen? ⟨w.heap.size, 0, none⟩ = false ∧ W.cell? ⟨w.heap.size, 1, none⟩ = some (.int .i64 y) ∧ W.frozen? ⟨w.heap.size, 1, none⟩ = false ∧ Below w.heap.size w W ∧ w.heap.size + 1 ≤ W.heap.size) 5 [.val (.agg #[.int .i64 x, .int .i64 y]), .call 29 #[.agg #[.int .i64 x, .int .i64 y]] (.agg #[.int .i64 (hold x), .int .i64 (hold y)]), .val (.agg #[.int .i64 x, .int .i64 y]), .val (.bool true), .val (.bool true)] (by kernel_rfl) (by kernel_rfl) (by rintro w1 w2 ⟨h0, h1, h2, h3⟩ hb; exact ⟨bcs hb h0, bfs hb h0 h1, bcs hb h2, bfs hb h2 h3⟩) ⟨by first | with_reducible assumption | go_simp, by first | with_reducible assumption | go_simp, by first | with_reducible assumption | go_simp, by first | with_reducible assumption | go_simp, by repeat (first | with_reducible exact Below.refl _ _ | fail | with_reducible apply below_drewN | with_reducible apply Below.drew | (with_reducible refine Below.alloc ?_ (by first | (simp; done) | (simp; omega) | omega) _) | (with_reducible refine Below.setCell ?_ (by first | (simp; done) | (simp; omega) | omega) _)), by first | with_reducible assumption | (simp; done) | (simp; omega)⟩ ?_ ?_
      · rintro W ⟨k1_p_0, g1_p_0, k1_p_1, g1_p_1, B1, z1⟩; exact ⟨k1_p_0, g1_p_0, k1_p_1, g1_p_1⟩
      rintro w1 ⟨k1_p_0, g1_p_0, k1_p_1, g1_p_1, B1, z1⟩ gg
      simp only [List.take_succ_cons, List.take_zero, List.drop_succ_cons, List.drop_zero, Obs, ob, Sp.get, Sp.news, Act.put, List.setIfInBounds_toArray, List.set_cons_zero, List.set_cons_succ, List.nil_append, List.cons_append, List.append_nil]
      refine ⟨⟨rfl, ?_⟩, ⟨rfl, ?_, ?_⟩, ⟨rfl, ?_⟩, ⟨rfl, ?_⟩, ⟨rfl, ?_⟩, ?_⟩
      · clear k1_p_0 g1_p_0 k1_p_1 g1_p_1 B1 z1; rintro w' ⟨h0, h1, h2, h3⟩; go_simp; try exact IntWalk.i64_in _ (by omega)
      · clear k1_p_0 g1_p_0 k1_p_1 g1_p_1 B1 z1; rintro w' ⟨h0, h1, h2, h3⟩; go_simp
      · clear k1_p_0 g1_p_0 k1_p_1 g1_p_1 B1 z1; rintro w' ⟨h0, h1, h2, h3⟩; exact vclamp_any x y _
      · clear k1_p_0 g1_p_0 k1_p_1 g1_p_1 B1 z1; rintro w' ⟨h0, h1, h2, h3⟩; go_simp; try exact IntWalk.i64_in _ (by omega)
      · clear k1_p_0 g1_p_0 k1_p_1 g1_p_1 B1 z1; rintro w' ⟨h0, h1, h2, h3⟩; go_simp; try exact IntWalk.i64_in _ (by omega)
      · clear k1_p_0 g1_p_0 k1_p_1 g1_p_1 B1 z1; rintro w' ⟨h0, h1, h2, h3⟩; go_simp; try exact IntWalk.i64_in _ (by omega)
      rintro w2 ⟨h0, h1, h2, h3⟩ hb2 hF
      clear hF
      have k2_p_0 := bcs hb2 k1_p_0
      have g2_p_0 := bfs hb2 k1_p_0 g1_p_0
      have k2_p_1 := bcs hb2 k1_p_1
      have g2_p_1 := bfs hb2 k1_p_1 g1_p_1
      clear h0 h1 h2 h3
      have B2 := bel_step B1 hb2
      have z2 := Nat.le_trans z1 hb2.size
      clear hb2
      (try clear B1)
      (try clear z1)
      (try clear k1_p_0)
      (try clear g1_p_0)
      (try clear k1_p_1)
      (try clear g1_p_1)
      (try clear q1_p)
      (try clear x1_p)
      (try clear y1_p)
      have q2_p : w.heap.size < w2.heap.size := qlt k2_p_0
      have x2_p : ¬ w.heap.size = w2.heap.size := qne k2_p_0
      have y2_p : ¬ w2.heap.size = w.heap.size := fun h => qne k2_p_0 h.symm
      go_wp2
      go_ret
      refine ⟨rfl, ?_⟩
      repeat (first | with_reducible exact Below.refl _ _ | with_reducible exact B2 | with_reducible apply below_drewN | with_reducible apply Below.drew | (with_reducible refine Below.alloc ?_ (by first | (simp; done) | (simp; omega) | omega) _) | (with_reducible refine Below.setCell ?_ (by first | (simp; done) | (simp; omega) | omega) _))
    · have e2 : (hold y == y) = false := by simp [h2]
      have e : vB x y = false := by simp [vB, h1, h2]
      rw [e]; clear e h1 h2
      go_enter Try.func36, Try.ntmps36
      go_wp2
      refine wp_region_ord (fun w' => w'.cell? ⟨w.heap.size, 0, none⟩ = some (.int .i64 x) ∧ w'.frozen? ⟨w.heap.size, 0, none⟩ = false ∧ w'.cell? ⟨w.heap.size, 1, none⟩ = some (.int .i64 y) ∧ w'.frozen? ⟨w.heap.size, 1, none⟩ = false) (fun W => W.cell? ⟨w.heap.size, 0, none⟩ = some (.int .i64 x) ∧ W.frozen? ⟨w.heap.size, 0, none⟩ = false ∧ W.cell? ⟨w.heap.size, 1, none⟩ = some (.int .i64 y) ∧ W.frozen? ⟨w.heap.size, 1, none⟩ = false ∧ Below w.heap.size w W ∧ w.heap.size + 1 ≤ W.heap.size) 5 [.val (.agg #[.int .i64 x, .int .i64 y]), .call 29 #[.agg #[.int .i64 x, .int .i64 y]] (.agg #[.int .i64 (hold x), .int .i64 (hold y)]), .val (.agg #[.int .i64 x, .int .i64 y]), .val (.bool false), .val (.bool false)] (by kernel_rfl) (by kernel_rfl) (by rintro w1 w2 ⟨h0, h1, h2, h3⟩ hb; exact ⟨bcs hb h0, bfs hb h0 h1, bcs hb h2, bfs hb h2 h3⟩) ⟨by first | with_reducible assumption | go_simp, by first | with_reducible assumption | go_simp, by first | with_reducible assumption | go_simp, by first | with_reducible assumption | go_simp, by repeat (first | with_reducible exact Below.refl _ _ | fail | with_reducible apply below_drewN | with_reducible apply Below.drew | (with_reducible refine Below.alloc ?_ (by first | (simp; done) | (simp; omega) | omega) _) | (with_reducible refine Below.setCell ?_ (by first | (simp; done) | (simp; omega) | omega) _)), by first | with_reducible assumption | (simp; done) | (simp; omega)⟩ ?_ ?_
      · rintro W ⟨k1_p_0, g1_p_0, k1_p_1, g1_p_1, B1, z1⟩; exact ⟨k1_p_0, g1_p_0, k1_p_1, g1_p_1⟩
      rintro w1 ⟨k1_p_0, g1_p_0, k1_p_1, g1_p_1, B1, z1⟩ gg
      simp only [List.take_succ_cons, List.take_zero, List.drop_succ_cons, List.drop_zero, Obs, ob, Sp.get, Sp.news, Act.put, List.setIfInBounds_toArray, List.set_cons_zero, List.set_cons_succ, List.nil_append, List.cons_append, List.append_nil]
      refine ⟨⟨rfl, ?_⟩, ⟨rfl, ?_, ?_⟩, ⟨rfl, ?_⟩, ⟨rfl, ?_⟩, ⟨rfl, ?_⟩, ?_⟩
      · clear k1_p_0 g1_p_0 k1_p_1 g1_p_1 B1 z1; rintro w' ⟨h0, h1, h2, h3⟩; go_simp; try exact IntWalk.i64_in _ (by omega)
      · clear k1_p_0 g1_p_0 k1_p_1 g1_p_1 B1 z1; rintro w' ⟨h0, h1, h2, h3⟩; go_simp
      · clear k1_p_0 g1_p_0 k1_p_1 g1_p_1 B1 z1; rintro w' ⟨h0, h1, h2, h3⟩; exact vclamp_any x y _
      · clear k1_p_0 g1_p_0 k1_p_1 g1_p_1 B1 z1; rintro w' ⟨h0, h1, h2, h3⟩; go_simp; try exact IntWalk.i64_in _ (by omega)
      · clear k1_p_0 g1_p_0 k1_p_1 g1_p_1 B1 z1; rintro w' ⟨h0, h1, h2, h3⟩; go_simp; try exact IntWalk.i64_in _ (by omega)
      · clear k1_p_0 g1_p_0 k1_p_1 g1_p_1 B1 z1; rintro w' ⟨h0, h1, h2, h3⟩; go_simp; try exact IntWalk.i64_in _ (by omega)
      rintro w2 ⟨h0, h1, h2, h3⟩ hb2 hF
      clear hF
      have k2_p_0 := bcs hb2 k1_p_0
      have g2_p_0 := bfs hb2 k1_p_0 g1_p_0
      have k2_p_1 := bcs hb2 k1_p_1
      have g2_p_1 := bfs hb2 k1_p_1 g1_p_1
      clear h0 h1 h2 h3
      have B2 := bel_step B1 hb2
      have z2 := Nat.le_trans z1 hb2.size
      clear hb2
      (try clear B1)
      (try clear z1)
      (try clear k1_p_0)
      (try clear g1_p_0)
      (try clear k1_p_1)
      (try clear g1_p_1)
      (try clear q1_p)
      (try clear x1_p)
      (try clear y1_p)
      have q2_p : w.heap.size < w2.heap.size := qlt k2_p_0
      have x2_p : ¬ w.heap.size = w2.heap.size := qne k2_p_0
      have y2_p : ¬ w2.heap.size = w.heap.size := fun h => qne k2_p_0 h.symm
      go_wp2
      go_ret
      refine ⟨rfl, ?_⟩
      repeat (first | with_reducible exact Below.refl _ _ | with_reducible exact B2 | with_reducible apply below_drewN | with_reducible apply Below.drew | (with_reducible refine Below.alloc ?_ (by first | (simp; done) | (simp; omega) | omega) _) | (with_reducible refine Below.setCell ?_ (by first | (simp; done) | (simp; omega) | omega) _))
  · have e1 : (hold x == x) = false := by simp [h1]
    have e : vB x y = false := by simp [vB, h1]
    rw [e]; clear e h1
    go_enter Try.func36, Try.ntmps36
    go_wp2
    refine wp_region_ord (fun w' => w'.cell? ⟨w.heap.size, 0, none⟩ = some (.int .i64 x) ∧ w'.frozen? ⟨w.heap.size, 0, none⟩ = false ∧ w'.cell? ⟨w.heap.size, 1, none⟩ = some (.int .i64 y) ∧ w'.frozen? ⟨w.heap.size, 1, none⟩ = false) (fun W => W.cell? ⟨w.heap.size, 0, none⟩ = some (.int .i64 x) ∧ W.frozen? ⟨w.heap.size, 0, none⟩ = false ∧ W.cell? ⟨w.heap.size, 1, none⟩ = some (.int .i64 y) ∧ W.frozen? ⟨w.heap.size, 1, none⟩ = false ∧ Below w.heap.size w W ∧ w.heap.size + 1 ≤ W.heap.size) 5 [.val (.agg #[.int .i64 x, .int .i64 y]), .call 29 #[.agg #[.int .i64 x, .int .i64 y]] (.agg #[.int .i64 (hold x), .int .i64 (hold y)]), .val (.agg #[.int .i64 x, .int .i64 y]), .val (.bool false), .val (.bool false)] (by kernel_rfl) (by kernel_rfl) (by rintro w1 w2 ⟨h0, h1, h2, h3⟩ hb; exact ⟨bcs hb h0, bfs hb h0 h1, bcs hb h2, bfs hb h2 h3⟩) ⟨by first | with_reducible assumption | go_simp, by first | with_reducible assumption | go_simp, by first | with_reducible assumption | go_simp, by first | with_reducible assumption | go_simp, by repeat (first | with_reducible exact Below.refl _ _ | fail | with_reducible apply below_drewN | with_reducible apply Below.drew | (with_reducible refine Below.alloc ?_ (by first | (simp; done) | (simp; omega) | omega) _) | (with_reducible refine Below.setCell ?_ (by first | (simp; done) | (simp; omega) | omega) _)), by first | with_reducible assumption | (simp; done) | (simp; omega)⟩ ?_ ?_
    · rintro W ⟨k1_p_0, g1_p_0, k1_p_1, g1_p_1, B1, z1⟩; exact ⟨k1_p_0, g1_p_0, k1_p_1, g1_p_1⟩
    rintro w1 ⟨k1_p_0, g1_p_0, k1_p_1, g1_p_1, B1, z1⟩ gg
    simp only [List.take_succ_cons, List.take_zero, List.drop_succ_cons, List.drop_zero, Obs, ob, Sp.get, Sp.news, Act.put, List.setIfInBounds_toArray, List.set_cons_zero, List.set_cons_succ, List.nil_append, List.cons_append, List.append_nil]
    refine ⟨⟨rfl, ?_⟩, ⟨rfl, ?_, ?_⟩, ⟨rfl, ?_⟩, ⟨rfl, ?_⟩, ⟨rfl, ?_⟩, ?_⟩
    · clear k1_p_0 g1_p_0 k1_p_1 g1_p_1 B1 z1; rintro w' ⟨h0, h1, h2, h3⟩; go_simp; try exact IntWalk.i64_in _ (by omega)
    · clear k1_p_0 g1_p_0 k1_p_1 g1_p_1 B1 z1; rintro w' ⟨h0, h1, h2, h3⟩; go_simp
    · clear k1_p_0 g1_p_0 k1_p_1 g1_p_1 B1 z1; rintro w' ⟨h0, h1, h2, h3⟩; exact vclamp_any x y _
    · clear k1_p_0 g1_p_0 k1_p_1 g1_p_1 B1 z1; rintro w' ⟨h0, h1, h2, h3⟩; go_simp; try exact IntWalk.i64_in _ (by omega)
    · clear k1_p_0 g1_p_0 k1_p_1 g1_p_1 B1 z1; rintro w' ⟨h0, h1, h2, h3⟩; go_simp; try exact IntWalk.i64_in _ (by omega)
    · clear k1_p_0 g1_p_0 k1_p_1 g1_p_1 B1 z1; rintro w' ⟨h0, h1, h2, h3⟩; go_simp; try exact IntWalk.i64_in _ (by omega)
    rintro w2 ⟨h0, h1, h2, h3⟩ hb2 hF
    clear hF
    have k2_p_0 := bcs hb2 k1_p_0
    have g2_p_0 := bfs hb2 k1_p_0 g1_p_0
    have k2_p_1 := bcs hb2 k1_p_1
    have g2_p_1 := bfs hb2 k1_p_1 g1_p_1
    clear h0 h1 h2 h3
    have B2 := bel_step B1 hb2
    have z2 := Nat.le_trans z1 hb2.size
    clear hb2
    (try clear B1)
    (try clear z1)
    (try clear k1_p_0)
    (try clear g1_p_0)
    (try clear k1_p_1)
    (try clear g1_p_1)
    (try clear q1_p)
    (try clear x1_p)
    (try clear y1_p)
    have q2_p : w.heap.size < w2.heap.size := qlt k2_p_0
    have x2_p : ¬ w.heap.size = w2.heap.size := qne k2_p_0
    have y2_p : ¬ w2.heap.size = w.heap.size := fun h => qne k2_p_0 h.symm
    go_wp2
    go_ret
    refine ⟨rfl, ?_⟩
    repeat (first | with_reducible exact Below.refl _ _ | with_reducible exact B2 | with_reducible apply below_drewN | with_reducible apply Below.drew | (with_reducible refine Below.alloc ?_ (by first | (simp; done) | (simp; omega) | omega) _) | (with_reducible refine Below.setCell ?_ (by first | (simp; done) | (simp; omega) | omega) _))

set_option maxHeartbeats 2000000 in
theorem vless_any (x y u v : Int) (w : World) :
    Calls Try.prog 39 #[.agg #[.int .i64 x, .int .i64 y], .agg #[.int .i64 u, .int .i64 v]] w fun e w' => e = .returned (.bool (lessB x y u v)) ∧ Below w.heap.size w w' := by
  by_cases h1 : hold y < hold v
  · have d1 : decide (hold y < hold v) = true := by simp [h1]
    have e : lessB x y u v = true := by simp [lessB, h1]
    rw [e]; clear e
    go_enter Try.func39, Try.ntmps39
    go_wp2
    refine wp_region_ord (fun w' => w'.cell? ⟨w.heap.size, 0, none⟩ = some (.int .i64 x) ∧ w'.frozen? ⟨w.heap.size, 0, none⟩ = false ∧ w'.cell? ⟨w.heap.size, 1, none⟩ = some (.int .i64 y) ∧ w'.frozen? ⟨w.heap.size, 1, none⟩ = false ∧ w'.cell? ⟨w.heap.size + 1, 0, none⟩ = some (.int .i64 u) ∧ w'.frozen? ⟨w.heap.size + 1, 0, none⟩ = false ∧ w'.cell? ⟨w.heap.size + 1, 1, none⟩ = some (.int .i64 v) ∧ w'.frozen? ⟨w.heap.size + 1, 1, none⟩ = false) (fun W => W.cell? ⟨w.heap.size, 0, none⟩ = some (.int .i64 x) ∧ W.frozen? ⟨w.heap.size, 0, none⟩ = false ∧ W.cell? ⟨w.heap.size, 1, none⟩ = some (.int .i64 y) ∧ W.frozen? ⟨w.heap.size, 1, none⟩ = false ∧ W.cell? ⟨w.heap.size + 1, 0, none⟩ = some (.int .i64 u) ∧ W.frozen? ⟨w.heap.size + 1, 0, none⟩ = false ∧ W.cell? ⟨w.heap.size + 1, 1, none⟩ = some (.int .i64 v) ∧ W.frozen? ⟨w.heap.size + 1, 1, none⟩ = false ∧ Below w.heap.size w W ∧ w.heap.size + 1 + 1 ≤ W.heap.size) 4 [.val (.agg #[.int .i64 x, .int .i64 y]), .call 29 #[.agg #[.int .i64 x, .int .i64 y]] (.agg #[.int .i64 (hold x), .int .i64 (hold y)]), .val (.agg #[.int .i64 u, .int .i64 v]), .call 29 #[.agg #[.int .i64 u, .int .i64 v]] (.agg #[.int .i64 (hold u), .int .i64 (hold v)])] (by kernel_rfl) (by kernel_rfl) (by rintro w1 w2 ⟨h0, h1, h2, h3, h4, h5, h6, h7⟩ hb; exact ⟨bcs hb h0, bfs hb h0 h1, bcs hb h2, bfs hb h2 h3, bcs hb h4, bfs hb h4 h5, bcs hb h6, bfs hb h6 h7⟩) ⟨by first | with_reducible assumption | go_simp, by first | with_reducible assumption | go_simp, by first | with_reducible assumption | go_simp, by first | with_reducible assumption | go_simp, by first | with_reducible assumption | go_simp, by first | with_reducible assumption | go_simp, by first | with_reducible assumption | go_simp, by first | with_reducible assumption | go_simp, by repeat (first | with_reducible exact Below.refl _ _ | fail | with_reducible apply below_drewN | with_reducible apply Below.drew | (with_reducible refine Below.alloc ?_ (by first | (simp; done) | (simp; omega) | omega) _) | (with_reducible refine Below.setCell ?_ (by first | (simp; done) | (simp; omega) | omega) _)), by first | with_reducible assumption | (simp; done) | (simp; omega)⟩ ?_ ?_
    · rintro W ⟨k1_p_0, g1_p_0, k1_p_1, g1_p_1, k1_q_0, g1_q_0, k1_q_1, g1_q_1, B1, z1⟩; exact ⟨k1_p_0, g1_p_0, k1_p_1, g1_p_1, k1_q_0, g1_q_0, k1_q_1, g1_q_1⟩
    rintro w1 ⟨k1_p_0, g1_p_0, k1_p_1, g1_p_1, k1_q_0, g1_q_0, k1_q_1, g1_q_1, B1, z1⟩ gg
    simp only [List.take_succ_cons, List.take_zero, List.drop_succ_cons, List.drop_zero, Obs, ob, Sp.get, Sp.news, Act.put, List.setIfInBounds_toArray, List.set_cons_zero, List.set_cons_succ, List.nil_append, List.cons_append, List.append_nil]
    refine ⟨⟨rfl, ?_⟩, ⟨rfl, ?_, ?_⟩, ⟨rfl, ?_⟩, ⟨rfl, ?_, ?_⟩, ?_⟩
    · clear k1_p_0 g1_p_0 k1_p_1 g1_p_1 k1_q_0 g1_q_0 k1_q_1 g1_q_1 B1 z1; rintro w' ⟨h0, h1, h2, h3, h4, h5, h6, h7⟩; go_simp; try exact IntWalk.i64_in _ (by omega)
    · clear k1_p_0 g1_p_0 k1_p_1 g1_p_1 k1_q_0 g1_q_0 k1_q_1 g1_q_1 B1 z1; rintro w' ⟨h0, h1, h2, h3, h4, h5, h6, h7⟩; go_simp
    · clear k1_p_0 g1_p_0 k1_p_1 g1_p_1 k1_q_0 g1_q_0 k1_q_1 g1_q_1 B1 z1; rintro w' ⟨h0, h1, h2, h3, h4, h5, h6, h7⟩; exact vclamp_any x y _
    · clear k1_p_0 g1_p_0 k1_p_1 g1_p_1 k1_q_0 g1_q_0 k1_q_1 g1_q_1 B1 z1; rintro w' ⟨h0, h1, h2, h3, h4, h5, h6, h7⟩; go_simp; try exact IntWalk.i64_in _ (by omega)
    · clear k1_p_0 g1_p_0 k1_p_1 g1_p_1 k1_q_0 g1_q_0 k1_q_1 g1_q_1 B1 z1; rintro w' ⟨h0, h1, h2, h3, h4, h5, h6, h7⟩; go_simp
    · clear k1_p_0 g1_p_0 k1_p_1 g1_p_1 k1_q_0 g1_q_0 k1_q_1 g1_q_1 B1 z1; rintro w' ⟨h0, h1, h2, h3, h4, h5, h6, h7⟩; exact vclamp_any u v _
    rintro w2 ⟨h0, h1, h2, h3, h4, h5, h6, h7⟩ hb2 hF
    clear hF
    have k2_p_0 := bcs hb2 k1_p_0
    have g2_p_0 := bfs hb2 k1_p_0 g1_p_0
    have k2_p_1 := bcs hb2 k1_p_1
    have g2_p_1 := bfs hb2 k1_p_1 g1_p_1
    have k2_q_0 := bcs hb2 k1_q_0
    have g2_q_0 := bfs hb2 k1_q_0 g1_q_0
    have k2_q_1 := bcs hb2 k1_q_1
    have g2_q_1 := bfs hb2 k1_q_1 g1_q_1
    clear h0 h1 h2 h3 h4 h5 h6 h7
    have B2 := bel_step B1 hb2
    have z2 := Nat.le_trans z1 hb2.size
    clear hb2
    (try clear B1)
    (try clear z1)
    (try clear k1_p_0)
    (try clear g1_p_0)
    (try clear k1_p_1)
    (try clear g1_p_1)
    (try clear k1_q_0)
    (try clear g1_q_0)
    (try clear k1_q_1)
    (try clear g1_q_1)
    (try clear q1_p)
    (try clear x1_p)
    (try clear y1_p)
    (try clear q1_q)
    (try clear x1_q)
    (try clear y1_q)
    have q2_p : w.heap.size < w2.heap.size := qlt k2_p_0
    have x2_p : ¬ w.heap.size = w2.heap.size := qne k2_p_0
    have y2_p : ¬ w2.heap.size = w.heap.size := fun h => qne k2_p_0 h.symm
    have q2_q : w.heap.size + 1 < w2.heap.size := qlt k2_q_0
    have x2_q : ¬ w.heap.size + 1 = w2.heap.size := qne k2_q_0
    have y2_q : ¬ w2.heap.size = w.heap.size + 1 := fun h => qne k2_q_0 h.symm
    go_wp2
    go_ret
    refine ⟨rfl, ?_⟩
    repeat (first | with_reducible exact Below.refl _ _ | with_reducible exact B2 | with_reducible apply below_drewN | with_reducible apply Below.drew | (with_reducible refine Below.alloc ?_ (by first | (simp; done) | (simp; omega) | omega) _) | (with_reducible refine Below.setCell ?_ (by first | (simp; done) | (simp; omega) | omega) _))
  · have d1 : decide (hold y < hold v) = false := by simp; omega
    by_cases h2 : hold y = hold v
    · have d2 : (hold y == hold v) = true := by simp [h2]
      by_cases h3 : hold x < hold u
      · have e : lessB x y u v = true := by simp [lessB, h2, h3]
        rw [e]; clear e h2
        go_enter Try.func39, Try.ntmps39
        go_wp2
        refine wp_region_ord (fun w' => w'.cell? ⟨w.heap.size, 0, none⟩ = some (.int .i64 x) ∧ w'.frozen? ⟨w.heap.size, 0, none⟩ = false ∧ w'.cell? ⟨w.heap.size, 1, none⟩ = some (.int .i64 y) ∧ w'.frozen? ⟨w.heap.size, 1, none⟩ = false ∧ w'.cell? ⟨w.heap.size + 1, 0, none⟩ = some (.int .i64 u) ∧ w'.frozen? ⟨w.heap.size + 1, 0, none⟩ = false ∧ w'.cell? ⟨w.heap.size + 1, 1, none⟩ = some (.int .i64 v) ∧ w'.frozen? ⟨w.heap.size + 1, 1, none⟩ = false) (fun W => W.cell? ⟨w.heap.size, 0, none⟩ = some (.int .i64 x) ∧ W.frozen? ⟨w.heap.size, 0, none⟩ = false ∧ W.cell? ⟨w.heap.size, 1, none⟩ = some (.int .i64 y) ∧ W.frozen? ⟨w.heap.size, 1, none⟩ = false ∧ W.cell? ⟨w.heap.size + 1, 0, none⟩ = some (.int .i64 u) ∧ W.frozen? ⟨w.heap.size + 1, 0, none⟩ = false ∧ W.cell? ⟨w.heap.size + 1, 1, none⟩ = some (.int .i64 v) ∧ W.frozen? ⟨w.heap.size + 1, 1, none⟩ = false ∧ Below w.heap.size w W ∧ w.heap.size + 1 + 1 ≤ W.heap.size) 4 [.val (.agg #[.int .i64 x, .int .i64 y]), .call 29 #[.agg #[.int .i64 x, .int .i64 y]] (.agg #[.int .i64 (hold x), .int .i64 (hold y)]), .val (.agg #[.int .i64 u, .int .i64 v]), .call 29 #[.agg #[.int .i64 u, .int .i64 v]] (.agg #[.int .i64 (hold u), .int .i64 (hold v)])] (by kernel_rfl) (by kernel_rfl) (by rintro w1 w2 ⟨h0, h1, h2, h3, h4, h5, h6, h7⟩ hb; exact ⟨bcs hb h0, bfs hb h0 h1, bcs hb h2, bfs hb h2 h3, bcs hb h4, bfs hb h4 h5, bcs hb h6, bfs hb h6 h7⟩) ⟨by first | with_reducible assumption | go_simp, by first | with_reducible assumption | go_simp, by first | with_reducible assumption | go_simp, by first | with_reducible assumption | go_simp, by first | with_reducible assumption | go_simp, by first | with_reducible assumption | go_simp, by first | with_reducible assumption | go_simp, by first | with_reducible assumption | go_simp, by repeat (first | with_reducible exact Below.refl _ _ | fail | with_reducible apply below_drewN | with_reducible apply Below.drew | (with_reducible refine Below.alloc ?_ (by first | (simp; done) | (simp; omega) | omega) _) | (with_reducible refine Below.setCell ?_ (by first | (simp; done) | (simp; omega) | omega) _)), by first | with_reducible assumption | (simp; done) | (simp; omega)⟩ ?_ ?_
        · rintro W ⟨k1_p_0, g1_p_0, k1_p_1, g1_p_1, k1_q_0, g1_q_0, k1_q_1, g1_q_1, B1, z1⟩; exact ⟨k1_p_0, g1_p_0, k1_p_1, g1_p_1, k1_q_0, g1_q_0, k1_q_1, g1_q_1⟩
        rintro w1 ⟨k1_p_0, g1_p_0, k1_p_1, g1_p_1, k1_q_0, g1_q_0, k1_q_1, g1_q_1, B1, z1⟩ gg
        simp only [List.take_succ_cons, List.take_zero, List.drop_succ_cons, List.drop_zero, Obs, ob, Sp.get, Sp.news, Act.put, List.setIfInBounds_toArray, List.set_cons_zero, List.set_cons_succ, List.nil_append, List.cons_append, List.append_nil]
        refine ⟨⟨rfl, ?_⟩, ⟨rfl, ?_, ?_⟩, ⟨rfl, ?_⟩, ⟨rfl, ?_, ?_⟩, ?_⟩
        · clear k1_p_0 g1_p_0 k1_p_1 g1_p_1 k1_q_0 g1_q_0 k1_q_1 g1_q_1 B1 z1; rintro w' ⟨h0, h1, h2, h3, h4, h5, h6, h7⟩; go_simp; try exact IntWalk.i64_in _ (by omega)
        · clear k1_p_0 g1_p_0 k1_p_1 g1_p_1 k1_q_0 g1_q_0 k1_q_1 g1_q_1 B1 z1; rintro w' ⟨h0, h1, h2, h3, h4, h5, h6, h7⟩; go_simp
        · clear k1_p_0 g1_p_0 k1_p_1 g1_p_1 k1_q_0 g1_q_0 k1_q_1 g1_q_1 B1 z1; rintro w' ⟨h0, h1, h2, h3, h4, h5, h6, h7⟩; exact vclamp_any x y _
        · clear k1_p_0 g1_p_0 k1_p_1 g1_p_1 k1_q_0 g1_q_0 k1_q_1 g1_q_1 B1 z1; rintro w' ⟨h0, h1, h2, h3, h4, h5, h6, h7⟩; go_simp; try exact IntWalk.i64_in _ (by omega)
        · clear k1_p_0 g1_p_0 k1_p_1 g1_p_1 k1_q_0 g1_q_0 k1_q_1 g1_q_1 B1 z1; rintro w' ⟨h0, h1, h2, h3, h4, h5, h6, h7⟩; go_simp
        · clear k1_p_0 g1_p_0 k1_p_1 g1_p_1 k1_q_0 g1_q_0 k1_q_1 g1_q_1 B1 z1; rintro w' ⟨h0, h1, h2, h3, h4, h5, h6, h7⟩; exact vclamp_any u v _
        rintro w2 ⟨h0, h1, h2, h3, h4, h5, h6, h7⟩ hb2 hF
        clear hF
        have k2_p_0 := bcs hb2 k1_p_0
        have g2_p_0 := bfs hb2 k1_p_0 g1_p_0
        have k2_p_1 := bcs hb2 k1_p_1
        have g2_p_1 := bfs hb2 k1_p_1 g1_p_1
        have k2_q_0 := bcs hb2 k1_q_0
        have g2_q_0 := bfs hb2 k1_q_0 g1_q_0
        have k2_q_1 := bcs hb2 k1_q_1
        have g2_q_1 := bfs hb2 k1_q_1 g1_q_1
        clear h0 h1 h2 h3 h4 h5 h6 h7
        have B2 := bel_step B1 hb2
        have z2 := Nat.le_trans z1 hb2.size
        clear hb2
        (try clear B1)
        (try clear z1)
        (try clear k1_p_0)
        (try clear g1_p_0)
        (try clear k1_p_1)
        (try clear g1_p_1)
        (try clear k1_q_0)
        (try clear g1_q_0)
        (try clear k1_q_1)
        (try clear g1_q_1)
        (try clear q1_p)
        (try clear x1_p)
        (try clear y1_p)
        (try clear q1_q)
        (try clear x1_q)
        (try clear y1_q)
        have q2_p : w.heap.size < w2.heap.size := qlt k2_p_0
        have x2_p : ¬ w.heap.size = w2.heap.size := qne k2_p_0
        have y2_p : ¬ w2.heap.size = w.heap.size := fun h => qne k2_p_0 h.symm
        have q2_q : w.heap.size + 1 < w2.heap.size := qlt k2_q_0
        have x2_q : ¬ w.heap.size + 1 = w2.heap.size := qne k2_q_0
        have y2_q : ¬ w2.heap.size = w.heap.size + 1 := fun h => qne k2_q_0 h.symm
        go_wp2
        go_ret
        refine ⟨rfl, ?_⟩
        repeat (first | with_reducible exact Below.refl _ _ | with_reducible exact B2 | with_reducible apply below_drewN | with_reducible apply Below.drew | (with_reducible refine Below.alloc ?_ (by first | (simp; done) | (simp; omega) | omega) _) | (with_reducible refine Below.setCell ?_ (by first | (simp; done) | (simp; omega) | omega) _))
      · have d3 : decide (hold x < hold u) = false := by simp; omega
        have e : lessB x y u v = false := by simp [lessB, h2, h3]
        rw [e]; clear e h2
        go_enter Try.func39, Try.ntmps39
        go_wp2
        refine wp_region_ord (fun w' => w'.cell? ⟨w.heap.size, 0, none⟩ = some (.int .i64 x) ∧ w'.frozen? ⟨w.heap.size, 0, none⟩ = false ∧ w'.cell? ⟨w.heap.size, 1, none⟩ = some (.int .i64 y) ∧ w'.frozen? ⟨w.heap.size, 1, none⟩ = false ∧ w'.cell? ⟨w.heap.size + 1, 0, none⟩ = some (.int .i64 u) ∧ w'.frozen? ⟨w.heap.size + 1, 0, none⟩ = false ∧ w'.cell? ⟨w.heap.size + 1, 1, none⟩ = some (.int .i64 v) ∧ w'.frozen? ⟨w.heap.size + 1, 1, none⟩ = false) (fun W => W.cell? ⟨w.heap.size, 0, none⟩ = some (.int .i64 x) ∧ W.frozen? ⟨w.heap.size, 0, none⟩ = false ∧ W.cell? ⟨w.heap.size, 1, none⟩ = some (.int .i64 y) ∧ W.frozen? ⟨w.heap.size, 1, none⟩ = false ∧ W.cell? ⟨w.heap.size + 1, 0, none⟩ = some (.int .i64 u) ∧ W.frozen? ⟨w.heap.size + 1, 0, none⟩ = false ∧ W.cell? ⟨w.heap.size + 1, 1, none⟩ = some (.int .i64 v) ∧ W.frozen? ⟨w.heap.size + 1, 1, none⟩ = false ∧ Below w.heap.size w W ∧ w.heap.size + 1 + 1 ≤ W.heap.size) 4 [.val (.agg #[.int .i64 x, .int .i64 y]), .call 29 #[.agg #[.int .i64 x, .int .i64 y]] (.agg #[.int .i64 (hold x), .int .i64 (hold y)]), .val (.agg #[.int .i64 u, .int .i64 v]), .call 29 #[.agg #[.int .i64 u, .int .i64 v]] (.agg #[.int .i64 (hold u), .int .i64 (hold v)])] (by kernel_rfl) (by kernel_rfl) (by rintro w1 w2 ⟨h0, h1, h2, h3, h4, h5, h6, h7⟩ hb; exact ⟨bcs hb h0, bfs hb h0 h1, bcs hb h2, bfs hb h2 h3, bcs hb h4, bfs hb h4 h5, bcs hb h6, bfs hb h6 h7⟩) ⟨by first | with_reducible assumption | go_simp, by first | with_reducible assumption | go_simp, by first | with_reducible assumption | go_simp, by first | with_reducible assumption | go_simp, by first | with_reducible assumption | go_simp, by first | with_reducible assumption | go_simp, by first | with_reducible assumption | go_simp, by first | with_reducible assumption | go_simp, by repeat (first | with_reducible exact Below.refl _ _ | fail | with_reducible apply below_drewN | with_reducible apply Below.drew | (with_reducible refine Below.alloc ?_ (by first | (simp; done) | (simp; omega) | omega) _) | (with_reducible refine Below.setCell ?_ (by first | (simp; done) | (simp; omega) | omega) _)), by first | with_reducible assumption | (simp; done) | (simp; omega)⟩ ?_ ?_
        · rintro W ⟨k1_p_0, g1_p_0, k1_p_1, g1_p_1, k1_q_0, g1_q_0, k1_q_1, g1_q_1, B1, z1⟩; exact ⟨k1_p_0, g1_p_0, k1_p_1, g1_p_1, k1_q_0, g1_q_0, k1_q_1, g1_q_1⟩
        rintro w1 ⟨k1_p_0, g1_p_0, k1_p_1, g1_p_1, k1_q_0, g1_q_0, k1_q_1, g1_q_1, B1, z1⟩ gg
        simp only [List.take_succ_cons, List.take_zero, List.drop_succ_cons, List.drop_zero, Obs, ob, Sp.get, Sp.news, Act.put, List.setIfInBounds_toArray, List.set_cons_zero, List.set_cons_succ, List.nil_append, List.cons_append, List.append_nil]
        refine ⟨⟨rfl, ?_⟩, ⟨rfl, ?_, ?_⟩, ⟨rfl, ?_⟩, ⟨rfl, ?_, ?_⟩, ?_⟩
        · clear k1_p_0 g1_p_0 k1_p_1 g1_p_1 k1_q_0 g1_q_0 k1_q_1 g1_q_1 B1 z1; rintro w' ⟨h0, h1, h2, h3, h4, h5, h6, h7⟩; go_simp; try exact IntWalk.i64_in _ (by omega)
        · clear k1_p_0 g1_p_0 k1_p_1 g1_p_1 k1_q_0 g1_q_0 k1_q_1 g1_q_1 B1 z1; rintro w' ⟨h0, h1, h2, h3, h4, h5, h6, h7⟩; go_simp
        · clear k1_p_0 g1_p_0 k1_p_1 g1_p_1 k1_q_0 g1_q_0 k1_q_1 g1_q_1 B1 z1; rintro w' ⟨h0, h1, h2, h3, h4, h5, h6, h7⟩; exact vclamp_any x y _
        · clear k1_p_0 g1_p_0 k1_p_1 g1_p_1 k1_q_0 g1_q_0 k1_q_1 g1_q_1 B1 z1; rintro w' ⟨h0, h1, h2, h3, h4, h5, h6, h7⟩; go_simp; try exact IntWalk.i64_in _ (by omega)
        · clear k1_p_0 g1_p_0 k1_p_1 g1_p_1 k1_q_0 g1_q_0 k1_q_1 g1_q_1 B1 z1; rintro w' ⟨h0, h1, h2, h3, h4, h5, h6, h7⟩; go_simp
        · clear k1_p_0 g1_p_0 k1_p_1 g1_p_1 k1_q_0 g1_q_0 k1_q_1 g1_q_1 B1 z1; rintro w' ⟨h0, h1, h2, h3, h4, h5, h6, h7⟩; exact vclamp_any u v _
        rintro w2 ⟨h0, h1, h2, h3, h4, h5, h6, h7⟩ hb2 hF
        clear hF
        have k2_p_0 := bcs hb2 k1_p_0
        have g2_p_0 := bfs hb2 k1_p_0 g1_p_0
        have k2_p_1 := bcs hb2 k1_p_1
        have g2_p_1 := bfs hb2 k1_p_1 g1_p_1
        have k2_q_0 := bcs hb2 k1_q_0
        have g2_q_0 := bfs hb2 k1_q_0 g1_q_0
        have k2_q_1 := bcs hb2 k1_q_1
        have g2_q_1 := bfs hb2 k1_q_1 g1_q_1
        clear h0 h1 h2 h3 h4 h5 h6 h7
        have B2 := bel_step B1 hb2
        have z2 := Nat.le_trans z1 hb2.size
        clear hb2
        (try clear B1)
        (try clear z1)
        (try clear k1_p_0)
        (try clear g1_p_0)
        (try clear k1_p_1)
        (try clear g1_p_1)
        (try clear k1_q_0)
        (try clear g1_q_0)
        (try clear k1_q_1)
        (try clear g1_q_1)
        (try clear q1_p)
        (try clear x1_p)
        (try clear y1_p)
        (try clear q1_q)
        (try clear x1_q)
        (try clear y1_q)
        have q2_p : w.heap.size < w2.heap.size := qlt k2_p_0
        have x2_p : ¬ w.heap.size = w2.heap.size := qne k2_p_0
        have y2_p : ¬ w2.heap.size = w.heap.size := fun h => qne k2_p_0 h.symm
        have q2_q : w.heap.size + 1 < w2.heap.size := qlt k2_q_0
        have x2_q : ¬ w.heap.size + 1 = w2.heap.size := qne k2_q_0
        have y2_q : ¬ w2.heap.size = w.heap.size + 1 := fun h => qne k2_q_0 h.symm
        go_wp2
        go_ret
        refine ⟨rfl, ?_⟩
        repeat (first | with_reducible exact Below.refl _ _ | with_reducible exact B2 | with_reducible apply below_drewN | with_reducible apply Below.drew | (with_reducible refine Below.alloc ?_ (by first | (simp; done) | (simp; omega) | omega) _) | (with_reducible refine Below.setCell ?_ (by first | (simp; done) | (simp; omega) | omega) _))
    · have d2 : (hold y == hold v) = false := by simp [h2]
      have e : lessB x y u v = false := by simp [lessB, h1, h2]
      rw [e]; clear e h2
      go_enter Try.func39, Try.ntmps39
      go_wp2
      refine wp_region_ord (fun w' => w'.cell? ⟨w.heap.size, 0, none⟩ = some (.int .i64 x) ∧ w'.frozen? ⟨w.heap.size, 0, none⟩ = false ∧ w'.cell? ⟨w.heap.size, 1, none⟩ = some (.int .i64 y) ∧ w'.frozen? ⟨w.heap.size, 1, none⟩ = false ∧ w'.cell? ⟨w.heap.size + 1, 0, none⟩ = some (.int .i64 u) ∧ w'.frozen? ⟨w.heap.size + 1, 0, none⟩ = false ∧ w'.cell? ⟨w.heap.size + 1, 1, none⟩ = some (.int .i64 v) ∧ w'.frozen? ⟨w.heap.size + 1, 1, none⟩ = false) (fun W => W.cell? ⟨w.heap.size, 0, none⟩ = some (.int .i64 x) ∧ W.frozen? ⟨w.heap.size, 0, none⟩ = false ∧ W.cell? ⟨w.heap.size, 1, none⟩ = some (.int .i64 y) ∧ W.frozen? ⟨w.heap.size, 1, none⟩ = false ∧ W.cell? ⟨w.heap.size + 1, 0, none⟩ = some (.int .i64 u) ∧ W.frozen? ⟨w.heap.size + 1, 0, none⟩ = false ∧ W.cell? ⟨w.heap.size + 1, 1, none⟩ = some (.int .i64 v) ∧ W.frozen? ⟨w.heap.size + 1, 1, none⟩ = false ∧ Below w.heap.size w W ∧ w.heap.size + 1 + 1 ≤ W.heap.size) 4 [.val (.agg #[.int .i64 x, .int .i64 y]), .call 29 #[.agg #[.int .i64 x, .int .i64 y]] (.agg #[.int .i64 (hold x), .int .i64 (hold y)]), .val (.agg #[.int .i64 u, .int .i64 v]), .call 29 #[.agg #[.int .i64 u, .int .i64 v]] (.agg #[.int .i64 (hold u), .int .i64 (hold v)])] (by kernel_rfl) (by kernel_rfl) (by rintro w1 w2 ⟨h0, h1, h2, h3, h4, h5, h6, h7⟩ hb; exact ⟨bcs hb h0, bfs hb h0 h1, bcs hb h2, bfs hb h2 h3, bcs hb h4, bfs hb h4 h5, bcs hb h6, bfs hb h6 h7⟩) ⟨by first | with_reducible assumption | go_simp, by first | with_reducible assumption | go_simp, by first | with_reducible assumption | go_simp, by first | with_reducible assumption | go_simp, by first | with_reducible assumption | go_simp, by first | with_reducible assumption | go_simp, by first | with_reducible assumption | go_simp, by first | with_reducible assumption | go_simp, by repeat (first | with_reducible exact Below.refl _ _ | fail | with_reducible apply below_drewN | with_reducible apply Below.drew | (with_reducible refine Below.alloc ?_ (by first | (simp; done) | (simp; omega) | omega) _) | (with_reducible refine Below.setCell ?_ (by first | (simp; done) | (simp; omega) | omega) _)), by first | with_reducible assumption | (simp; done) | (simp; omega)⟩ ?_ ?_
      · rintro W ⟨k1_p_0, g1_p_0, k1_p_1, g1_p_1, k1_q_0, g1_q_0, k1_q_1, g1_q_1, B1, z1⟩; exact ⟨k1_p_0, g1_p_0, k1_p_1, g1_p_1, k1_q_0, g1_q_0, k1_q_1, g1_q_1⟩
      rintro w1 ⟨k1_p_0, g1_p_0, k1_p_1, g1_p_1, k1_q_0, g1_q_0, k1_q_1, g1_q_1, B1, z1⟩ gg
      simp only [List.take_succ_cons, List.take_zero, List.drop_succ_cons, List.drop_zero, Obs, ob, Sp.get, Sp.news, Act.put, List.setIfInBounds_toArray, List.set_cons_zero, List.set_cons_succ, List.nil_append, List.cons_append, List.append_nil]
      refine ⟨⟨rfl, ?_⟩, ⟨rfl, ?_, ?_⟩, ⟨rfl, ?_⟩, ⟨rfl, ?_, ?_⟩, ?_⟩
      · clear k1_p_0 g1_p_0 k1_p_1 g1_p_1 k1_q_0 g1_q_0 k1_q_1 g1_q_1 B1 z1; rintro w' ⟨h0, h1, h2, h3, h4, h5, h6, h7⟩; go_simp; try exact IntWalk.i64_in _ (by omega)
      · clear k1_p_0 g1_p_0 k1_p_1 g1_p_1 k1_q_0 g1_q_0 k1_q_1 g1_q_1 B1 z1; rintro w' ⟨h0, h1, h2, h3, h4, h5, h6, h7⟩; go_simp
      · clear k1_p_0 g1_p_0 k1_p_1 g1_p_1 k1_q_0 g1_q_0 k1_q_1 g1_q_1 B1 z1; rintro w' ⟨h0, h1, h2, h3, h4, h5, h6, h7⟩; exact vclamp_any x y _
      · clear k1_p_0 g1_p_0 k1_p_1 g1_p_1 k1_q_0 g1_q_0 k1_q_1 g1_q_1 B1 z1; rintro w' ⟨h0, h1, h2, h3, h4, h5, h6, h7⟩; go_simp; try exact IntWalk.i64_in _ (by omega)
      · clear k1_p_0 g1_p_0 k1_p_1 g1_p_1 k1_q_0 g1_q_0 k1_q_1 g1_q_1 B1 z1; rintro w' ⟨h0, h1, h2, h3, h4, h5, h6, h7⟩; go_simp
      · clear k1_p_0 g1_p_0 k1_p_1 g1_p_1 k1_q_0 g1_q_0 k1_q_1 g1_q_1 B1 z1; rintro w' ⟨h0, h1, h2, h3, h4, h5, h6, h7⟩; exact vclamp_any u v _
      rintro w2 ⟨h0, h1, h2, h3, h4, h5, h6, h7⟩ hb2 hF
      clear hF
      have k2_p_0 := bcs hb2 k1_p_0
      have g2_p_0 := bfs hb2 k1_p_0 g1_p_0
      have k2_p_1 := bcs hb2 k1_p_1
      have g2_p_1 := bfs hb2 k1_p_1 g1_p_1
      have k2_q_0 := bcs hb2 k1_q_0
      have g2_q_0 := bfs hb2 k1_q_0 g1_q_0
      have k2_q_1 := bcs hb2 k1_q_1
      have g2_q_1 := bfs hb2 k1_q_1 g1_q_1
      clear h0 h1 h2 h3 h4 h5 h6 h7
      have B2 := bel_step B1 hb2
      have z2 := Nat.le_trans z1 hb2.size
      clear hb2
      (try clear B1)
      (try clear z1)
      (try clear k1_p_0)
      (try clear g1_p_0)
      (try clear k1_p_1)
      (try clear g1_p_1)
      (try clear k1_q_0)
      (try clear g1_q_0)
      (try clear k1_q_1)
      (try clear g1_q_1)
      (try clear q1_p)
      (try clear x1_p)
      (try clear y1_p)
      (try clear q1_q)
      (try clear x1_q)
      (try clear y1_q)
      have q2_p : w.heap.size < w2.heap.size := qlt k2_p_0
      have x2_p : ¬ w.heap.size = w2.heap.size := qne k2_p_0
      have y2_p : ¬ w2.heap.size = w.heap.size := fun h => qne k2_p_0 h.symm
      have q2_q : w.heap.size + 1 < w2.heap.size := qlt k2_q_0
      have x2_q : ¬ w.heap.size + 1 = w2.heap.size := qne k2_q_0
      have y2_q : ¬ w2.heap.size = w.heap.size + 1 := fun h => qne k2_q_0 h.symm
      go_wp2
      go_ret
      refine ⟨rfl, ?_⟩
      repeat (first | with_reducible exact Below.refl _ _ | with_reducible exact B2 | with_reducible apply below_drewN | with_reducible apply Below.drew | (with_reducible refine Below.alloc ?_ (by first | (simp; done) | (simp; omega) | omega) _) | (with_reducible refine Below.setCell ?_ (by first | (simp; done) | (simp; omega) | omega) _))

set_option maxHeartbeats 2000000 in
theorem vori_any (x y u v s t : Int) (w : World) :
    Calls Try.prog 37 #[.agg #[.int .i64 x, .int .i64 y], .agg #[.int .i64 u, .int .i64 v], .agg #[.int .i64 s, .int .i64 t]] w fun e w' => e = .returned (.int .i64 (oriV x y u v s t)) ∧ Below w.heap.size w w' := by
  obtain ⟨bx0, bx1⟩ := hold_bd x
  obtain ⟨by0, by1⟩ := hold_bd y
  obtain ⟨bu0, bu1⟩ := hold_bd u
  obtain ⟨bv0, bv1⟩ := hold_bd v
  obtain ⟨bs0, bs1⟩ := hold_bd s
  obtain ⟨bt0, bt1⟩ := hold_bd t
  go_enter Try.func37, Try.ntmps37
  go_wp2
  refine wp_region_ord (fun w' => w'.cell? ⟨w.heap.size, 0, none⟩ = some (.int .i64 x) ∧ w'.frozen? ⟨w.heap.size, 0, none⟩ = false ∧ w'.cell? ⟨w.heap.size, 1, none⟩ = some (.int .i64 y) ∧ w'.frozen? ⟨w.heap.size, 1, none⟩ = false ∧ w'.cell? ⟨w.heap.size + 1, 0, none⟩ = some (.int .i64 u) ∧ w'.frozen? ⟨w.heap.size + 1, 0, none⟩ = false ∧ w'.cell? ⟨w.heap.size + 1, 1, none⟩ = some (.int .i64 v) ∧ w'.frozen? ⟨w.heap.size + 1, 1, none⟩ = false ∧ w'.cell? ⟨w.heap.size + 1 + 1, 0, none⟩ = some (.int .i64 s) ∧ w'.frozen? ⟨w.heap.size + 1 + 1, 0, none⟩ = false ∧ w'.cell? ⟨w.heap.size + 1 + 1, 1, none⟩ = some (.int .i64 t) ∧ w'.frozen? ⟨w.heap.size + 1 + 1, 1, none⟩ = false) (fun W => W.cell? ⟨w.heap.size, 0, none⟩ = some (.int .i64 x) ∧ W.frozen? ⟨w.heap.size, 0, none⟩ = false ∧ W.cell? ⟨w.heap.size, 1, none⟩ = some (.int .i64 y) ∧ W.frozen? ⟨w.heap.size, 1, none⟩ = false ∧ W.cell? ⟨w.heap.size + 1, 0, none⟩ = some (.int .i64 u) ∧ W.frozen? ⟨w.heap.size + 1, 0, none⟩ = false ∧ W.cell? ⟨w.heap.size + 1, 1, none⟩ = some (.int .i64 v) ∧ W.frozen? ⟨w.heap.size + 1, 1, none⟩ = false ∧ W.cell? ⟨w.heap.size + 1 + 1, 0, none⟩ = some (.int .i64 s) ∧ W.frozen? ⟨w.heap.size + 1 + 1, 0, none⟩ = false ∧ W.cell? ⟨w.heap.size + 1 + 1, 1, none⟩ = some (.int .i64 t) ∧ W.frozen? ⟨w.heap.size + 1 + 1, 1, none⟩ = false ∧ Below w.heap.size w W ∧ w.heap.size + 1 + 1 + 1 ≤ W.heap.size) 6 [.val (.agg #[.int .i64 x, .int .i64 y]), .call 29 #[.agg #[.int .i64 x, .int .i64 y]] (.agg #[.int .i64 (hold x), .int .i64 (hold y)]), .val (.agg #[.int .i64 u, .int .i64 v]), .call 29 #[.agg #[.int .i64 u, .int .i64 v]] (.agg #[.int .i64 (hold u), .int .i64 (hold v)]), .val (.agg #[.int .i64 s, .int .i64 t]), .call 29 #[.agg #[.int .i64 s, .int .i64 t]] (.agg #[.int .i64 (hold s), .int .i64 (hold t)])] (by kernel_rfl) (by kernel_rfl) (by rintro w1 w2 ⟨h0, h1, h2, h3, h4, h5, h6, h7, h8, h9, h10, h11⟩ hb; exact ⟨bcs hb h0, bfs hb h0 h1, bcs hb h2, bfs hb h2 h3, bcs hb h4, bfs hb h4 h5, bcs hb h6, bfs hb h6 h7, bcs hb h8, bfs hb h8 h9, bcs hb h10, bfs hb h10 h11⟩) ⟨by first | with_reducible assumption | go_simp, by first | with_reducible assumption | go_simp, by first | with_reducible assumption | go_simp, by first | with_reducible assumption | go_simp, by first | with_reducible assumption | go_simp, by first | with_reducible assumption | go_simp, by first | with_reducible assumption | go_simp, by first | with_reducible assumption | go_simp, by first | with_reducible assumption | go_simp, by first | with_reducible assumption | go_simp, by first | with_reducible assumption | go_simp, by first | with_reducible assumption | go_simp, by repeat (first | with_reducible exact Below.refl _ _ | fail | with_reducible apply below_drewN | with_reducible apply Below.drew | (with_reducible refine Below.alloc ?_ (by first | (simp; done) | (simp; omega) | omega) _) | (with_reducible refine Below.setCell ?_ (by first | (simp; done) | (simp; omega) | omega) _)), by first | with_reducible assumption | (simp; done) | (simp; omega)⟩ ?_ ?_
  · rintro W ⟨k1_a_0, g1_a_0, k1_a_1, g1_a_1, k1_b_0, g1_b_0, k1_b_1, g1_b_1, k1_p_0, g1_p_0, k1_p_1, g1_p_1, B1, z1⟩; exact ⟨k1_a_0, g1_a_0, k1_a_1, g1_a_1, k1_b_0, g1_b_0, k1_b_1, g1_b_1, k1_p_0, g1_p_0, k1_p_1, g1_p_1⟩
  rintro w1 ⟨k1_a_0, g1_a_0, k1_a_1, g1_a_1, k1_b_0, g1_b_0, k1_b_1, g1_b_1, k1_p_0, g1_p_0, k1_p_1, g1_p_1, B1, z1⟩ gg
  simp only [List.take_succ_cons, List.take_zero, List.drop_succ_cons, List.drop_zero, Obs, ob, Sp.get, Sp.news, Act.put, List.setIfInBounds_toArray, List.set_cons_zero, List.set_cons_succ, List.nil_append, List.cons_append, List.append_nil]
  refine ⟨⟨rfl, ?_⟩, ⟨rfl, ?_, ?_⟩, ⟨rfl, ?_⟩, ⟨rfl, ?_, ?_⟩, ⟨rfl, ?_⟩, ⟨rfl, ?_, ?_⟩, ?_⟩
  · clear k1_a_0 g1_a_0 k1_a_1 g1_a_1 k1_b_0 g1_b_0 k1_b_1 g1_b_1 k1_p_0 g1_p_0 k1_p_1 g1_p_1 B1 z1; rintro w' ⟨h0, h1, h2, h3, h4, h5, h6, h7, h8, h9, h10, h11⟩; go_simp; try exact IntWalk.i64_in _ (by omega)
  · clear k1_a_0 g1_a_0 k1_a_1 g1_a_1 k1_b_0 g1_b_0 k1_b_1 g1_b_1 k1_p_0 g1_p_0 k1_p_1 g1_p_1 B1 z1; rintro w' ⟨h0, h1, h2, h3, h4, h5, h6, h7, h8, h9, h10, h11⟩; go_simp
  · clear k1_a_0 g1_a_0 k1_a_1 g1_a_1 k1_b_0 g1_b_0 k1_b_1 g1_b_1 k1_p_0 g1_p_0 k1_p_1 g1_p_1 B1 z1; rintro w' ⟨h0, h1, h2, h3, h4, h5, h6, h7, h8, h9, h10, h11⟩; exact vclamp_any x y _
  · clear k1_a_0 g1_a_0 k1_a_1 g1_a_1 k1_b_0 g1_b_0 k1_b_1 g1_b_1 k1_p_0 g1_p_0 k1_p_1 g1_p_1 B1 z1; rintro w' ⟨h0, h1, h2, h3, h4, h5, h6, h7, h8, h9, h10, h11⟩; go_simp; try exact IntWalk.i64_in _ (by omega)
  · clear k1_a_0 g1_a_0 k1_a_1 g1_a_1 k1_b_0 g1_b_0 k1_b_1 g1_b_1 k1_p_0 g1_p_0 k1_p_1 g1_p_1 B1 z1; rintro w' ⟨h0, h1, h2, h3, h4, h5, h6, h7, h8, h9, h10, h11⟩; go_simp
  · clear k1_a_0 g1_a_0 k1_a_1 g1_a_1 k1_b_0 g1_b_0 k1_b_1 g1_b_1 k1_p_0 g1_p_0 k1_p_1 g1_p_1 B1 z1; rintro w' ⟨h0, h1, h2, h3, h4, h5, h6, h7, h8, h9, h10, h11⟩; exact vclamp_any u v _
  · clear k1_a_0 g1_a_0 k1_a_1 g1_a_1 k1_b_0 g1_b_0 k1_b_1 g1_b_1 k1_p_0 g1_p_0 k1_p_1 g1_p_1 B1 z1; rintro w' ⟨h0, h1, h2, h3, h4, h5, h6, h7, h8, h9, h10, h11⟩; go_simp; try exact IntWalk.i64_in _ (by omega)
  · clear k1_a_0 g1_a_0 k1_a_1 g1_a_1 k1_b_0 g1_b_0 k1_b_1 g1_b_1 k1_p_0 g1_p_0 k1_p_1 g1_p_1 B1 z1; rintro w' ⟨h0, h1, h2, h3, h4, h5, h6, h7, h8, h9, h10, h11⟩; go_simp
  · clear k1_a_0 g1_a_0 k1_a_1 g1_a_1 k1_b_0 g1_b_0 k1_b_1 g1_b_1 k1_p_0 g1_p_0 k1_p_1 g1_p_1 B1 z1; rintro w' ⟨h0, h1, h2, h3, h4, h5, h6, h7, h8, h9, h10, h11⟩; exact vclamp_any s t _
  rintro w2 ⟨h0, h1, h2, h3, h4, h5, h6, h7, h8, h9, h10, h11⟩ hb2 hF
  clear hF
  have k2_a_0 := bcs hb2 k1_a_0
  have g2_a_0 := bfs hb2 k1_a_0 g1_a_0
  have k2_a_1 := bcs hb2 k1_a_1
  have g2_a_1 := bfs hb2 k1_a_1 g1_a_1
  have k2_b_0 := bcs hb2 k1_b_0
  have g2_b_0 := bfs hb2 k1_b_0 g1_b_0
  have k2_b_1 := bcs hb2 k1_b_1
  have g2_b_1 := bfs hb2 k1_b_1 g1_b_1
  have k2_p_0 := bcs hb2 k1_p_0
  have g2_p_0 := bfs hb2 k1_p_0 g1_p_0
  have k2_p_1 := bcs hb2 k1_p_1
  have g2_p_1 := bfs hb2 k1_p_1 g1_p_1
  clear h0 h1 h2 h3 h4 h5 h6 h7 h8 h9 h10 h11
  have B2 := bel_step B1 hb2
  have z2 := Nat.le_trans z1 hb2.size
  clear hb2
  (try clear B1)
  (try clear z1)
  (try clear k1_a_0)
  (try clear g1_a_0)
  (try clear k1_a_1)
  (try clear g1_a_1)
  (try clear k1_b_0)
  (try clear g1_b_0)
  (try clear k1_b_1)
  (try clear g1_b_1)
  (try clear k1_p_0)
  (try clear g1_p_0)
  (try clear k1_p_1)
  (try clear g1_p_1)
  (try clear q1_a)
  (try clear x1_a)
  (try clear y1_a)
  (try clear q1_b)
  (try clear x1_b)
  (try clear y1_b)
  (try clear q1_p)
  (try clear x1_p)
  (try clear y1_p)
  have q2_a : w.heap.size < w2.heap.size := qlt k2_a_0
  have x2_a : ¬ w.heap.size = w2.heap.size := qne k2_a_0
  have y2_a : ¬ w2.heap.size = w.heap.size := fun h => qne k2_a_0 h.symm
  have q2_b : w.heap.size + 1 < w2.heap.size := qlt k2_b_0
  have x2_b : ¬ w.heap.size + 1 = w2.heap.size := qne k2_b_0
  have y2_b : ¬ w2.heap.size = w.heap.size + 1 := fun h => qne k2_b_0 h.symm
  have q2_p : w.heap.size + 1 + 1 < w2.heap.size := qlt k2_p_0
  have x2_p : ¬ w.heap.size + 1 + 1 = w2.heap.size := qne k2_p_0
  have y2_p : ¬ w2.heap.size = w.heap.size + 1 + 1 := fun h => qne k2_p_0 h.symm
  go_wp2
  refine wp_region_ord (fun w' => w'.cell? ⟨w.heap.size, 0, none⟩ = some (.int .i64 (hold x)) ∧ w'.frozen? ⟨w.heap.size, 0, none⟩ = false ∧ w'.cell? ⟨w.heap.size, 1, none⟩ = some (.int .i64 (hold y)) ∧ w'.frozen? ⟨w.heap.size, 1, none⟩ = false ∧ w'.cell? ⟨w.heap.size + 1, 0, none⟩ = some (.int .i64 (hold u)) ∧ w'.frozen? ⟨w.heap.size + 1, 0, none⟩ = false ∧ w'.cell? ⟨w.heap.size + 1, 1, none⟩ = some (.int .i64 (hold v)) ∧ w'.frozen? ⟨w.heap.size + 1, 1, none⟩ = false ∧ w'.cell? ⟨w.heap.size + 1 + 1, 0, none⟩ = some (.int .i64 (hold s)) ∧ w'.frozen? ⟨w.heap.size + 1 + 1, 0, none⟩ = false ∧ w'.cell? ⟨w.heap.size + 1 + 1, 1, none⟩ = some (.int .i64 (hold t)) ∧ w'.frozen? ⟨w.heap.size + 1 + 1, 1, none⟩ = false) (fun W => W.cell? ⟨w.heap.size, 0, none⟩ = some (.int .i64 (hold x)) ∧ W.frozen? ⟨w.heap.size, 0, none⟩ = false ∧ W.cell? ⟨w.heap.size, 1, none⟩ = some (.int .i64 (hold y)) ∧ W.frozen? ⟨w.heap.size, 1, none⟩ = false ∧ W.cell? ⟨w.heap.size + 1, 0, none⟩ = some (.int .i64 (hold u)) ∧ W.frozen? ⟨w.heap.size + 1, 0, none⟩ = false ∧ W.cell? ⟨w.heap.size + 1, 1, none⟩ = some (.int .i64 (hold v)) ∧ W.frozen? ⟨w.heap.size + 1, 1, none⟩ = false ∧ W.cell? ⟨w.heap.size + 1 + 1, 0, none⟩ = some (.int .i64 (hold s)) ∧ W.frozen? ⟨w.heap.size + 1 + 1, 0, none⟩ = false ∧ W.cell? ⟨w.heap.size + 1 + 1, 1, none⟩ = some (.int .i64 (hold t)) ∧ W.frozen? ⟨w.heap.size + 1 + 1, 1, none⟩ = false ∧ Below w.heap.size w W ∧ w.heap.size + 1 + 1 + 1 ≤ W.heap.size) 10 [.val (.func (.func 47) #[] #[]), .val (.agg #[.int .i64 (hold x), .int .i64 (hold y)]), .val (.agg #[.int .i64 (hold u), .int .i64 (hold v)]), .call 30 #[.agg #[.int .i64 (hold x), .int .i64 (hold y)], .agg #[.int .i64 (hold u), .int .i64 (hold v)]] (.agg #[.int .i64 (hold u - hold x), .int .i64 (hold v - hold y)]), .val (.agg #[.int .i64 (hold x), .int .i64 (hold y)]), .val (.agg #[.int .i64 (hold s), .int .i64 (hold t)]), .call 30 #[.agg #[.int .i64 (hold x), .int .i64 (hold y)], .agg #[.int .i64 (hold s), .int .i64 (hold t)]] (.agg #[.int .i64 (hold s - hold x), .int .i64 (hold t - hold y)]), .call 47 #[.agg #[.int .i64 (hold u - hold x), .int .i64 (hold v - hold y)], .agg #[.int .i64 (hold s - hold x), .int .i64 (hold t - hold y)]] (.int .i64 (crs (hold x) (hold y) (hold u) (hold v) (hold s) (hold t))), .call 28 #[.int .i64 (crs (hold x) (hold y) (hold u) (hold v) (hold s) (hold t)), .int .i64 (-1), .int .i64 1] (.int .i64 (oriV x y u v s t)), .val (.int .i64 (oriV x y u v s t))] (by kernel_rfl) (by kernel_rfl) (by rintro w1 w2 ⟨h0, h1, h2, h3, h4, h5, h6, h7, h8, h9, h10, h11⟩ hb; exact ⟨bcs hb h0, bfs hb h0 h1, bcs hb h2, bfs hb h2 h3, bcs hb h4, bfs hb h4 h5, bcs hb h6, bfs hb h6 h7, bcs hb h8, bfs hb h8 h9, bcs hb h10, bfs hb h10 h11⟩) ⟨by first | with_reducible assumption | go_simp, by first | with_reducible assumption | go_simp, by first | with_reducible assumption | go_simp, by first | with_reducible assumption | go_simp, by first | with_reducible assumption | go_simp, by first | with_reducible assumption | go_simp, by first | with_reducible assumption | go_simp, by first | with_reducible assumption | go_simp, by first | with_reducible assumption | go_simp, by first | with_reducible assumption | go_simp, by first | with_reducible assumption | go_simp, by first | with_reducible assumption | go_simp, by repeat (first | with_reducible exact Below.refl _ _ | with_reducible exact B2 | with_reducible apply below_drewN | with_reducible apply Below.drew | (with_reducible refine Below.alloc ?_ (by first | (simp; done) | (simp; omega) | omega) _) | (with_reducible refine Below.setCell ?_ (by first | (simp; done) | (simp; omega) | omega) _)), by first | with_reducible assumption | (simp; done) | (simp; omega)⟩ ?_ ?_
  · rintro W ⟨k3_a_0, g3_a_0, k3_a_1, g3_a_1, k3_b_0, g3_b_0, k3_b_1, g3_b_1, k3_p_0, g3_p_0, k3_p_1, g3_p_1, B3, z3⟩; exact ⟨k3_a_0, g3_a_0, k3_a_1, g3_a_1, k3_b_0, g3_b_0, k3_b_1, g3_b_1, k3_p_0, g3_p_0, k3_p_1, g3_p_1⟩
  (try clear B2)
  (try clear z2)
  (try clear k2_a_0)
  (try clear g2_a_0)
  (try clear k2_a_1)
  (try clear g2_a_1)
  (try clear k2_b_0)
  (try clear g2_b_0)
  (try clear k2_b_1)
  (try clear g2_b_1)
  (try clear k2_p_0)
  (try clear g2_p_0)
  (try clear k2_p_1)
  (try clear g2_p_1)
  (try clear q2_a)
  (try clear x2_a)
  (try clear y2_a)
  (try clear q2_b)
  (try clear x2_b)
  (try clear y2_b)
  (try clear q2_p)
  (try clear x2_p)
  (try clear y2_p)
  rintro w3 ⟨k3_a_0, g3_a_0, k3_a_1, g3_a_1, k3_b_0, g3_b_0, k3_b_1, g3_b_1, k3_p_0, g3_p_0, k3_p_1, g3_p_1, B3, z3⟩ gg
  simp only [List.take_succ_cons, List.take_zero, List.drop_succ_cons, List.drop_zero, Obs, ob, Sp.get, Sp.news, Act.put, List.setIfInBounds_toArray, List.set_cons_zero, List.set_cons_succ, List.nil_append, List.cons_append, List.append_nil]
  refine ⟨⟨rfl, ?_⟩, ⟨rfl, ?_⟩, ⟨rfl, ?_⟩, ⟨rfl, ?_, ?_⟩, ⟨rfl, ?_⟩, ⟨rfl, ?_⟩, ⟨rfl, ?_, ?_⟩, ⟨rfl, ?_, ?_⟩, ⟨rfl, ?_, ?_⟩, ⟨rfl, ?_⟩, ?_⟩
  · clear k3_a_0 g3_a_0 k3_a_1 g3_a_1 k3_b_0 g3_b_0 k3_b_1 g3_b_1 k3_p_0 g3_p_0 k3_p_1 g3_p_1 B3 z3; rintro w' ⟨h0, h1, h2, h3, h4, h5, h6, h7, h8, h9, h10, h11⟩; go_simp; try exact IntWalk.i64_in _ (by omega)
  · clear k3_a_0 g3_a_0 k3_a_1 g3_a_1 k3_b_0 g3_b_0 k3_b_1 g3_b_1 k3_p_0 g3_p_0 k3_p_1 g3_p_1 B3 z3; rintro w' ⟨h0, h1, h2, h3, h4, h5, h6, h7, h8, h9, h10, h11⟩; go_simp; try exact IntWalk.i64_in _ (by omega)
  · clear k3_a_0 g3_a_0 k3_a_1 g3_a_1 k3_b_0 g3_b_0 k3_b_1 g3_b_1 k3_p_0 g3_p_0 k3_p_1 g3_p_1 B3 z3; rintro w' ⟨h0, h1, h2, h3, h4, h5, h6, h7, h8, h9, h10, h11⟩; go_simp; try exact IntWalk.i64_in _ (by omega)
  · clear k3_a_0 g3_a_0 k3_a_1 g3_a_1 k3_b_0 g3_b_0 k3_b_1 g3_b_1 k3_p_0 g3_p_0 k3_p_1 g3_p_1 B3 z3; rintro w' ⟨h0, h1, h2, h3, h4, h5, h6, h7, h8, h9, h10, h11⟩; go_simp
  · clear k3_a_0 g3_a_0 k3_a_1 g3_a_1 k3_b_0 g3_b_0 k3_b_1 g3_b_1 k3_p_0 g3_p_0 k3_p_1 g3_p_1 B3 z3; rintro w' ⟨h0, h1, h2, h3, h4, h5, h6, h7, h8, h9, h10, h11⟩; exact between_any (hold x) (hold y) (hold u) (hold v) (by omega) (by omega) (by omega) (by omega) (by omega) (by omega) (by omega) (by omega) _
  · clear k3_a_0 g3_a_0 k3_a_1 g3_a_1 k3_b_0 g3_b_0 k3_b_1 g3_b_1 k3_p_0 g3_p_0 k3_p_1 g3_p_1 B3 z3; rintro w' ⟨h0, h1, h2, h3, h4, h5, h6, h7, h8, h9, h10, h11⟩; go_simp; try exact IntWalk.i64_in _ (by omega)
  · clear k3_a_0 g3_a_0 k3_a_1 g3_a_1 k3_b_0 g3_b_0 k3_b_1 g3_b_1 k3_p_0 g3_p_0 k3_p_1 g3_p_1 B3 z3; rintro w' ⟨h0, h1, h2, h3, h4, h5, h6, h7, h8, h9, h10, h11⟩; go_simp; try exact IntWalk.i64_in _ (by omega)
  · clear k3_a_0 g3_a_0 k3_a_1 g3_a_1 k3_b_0 g3_b_0 k3_b_1 g3_b_1 k3_p_0 g3_p_0 k3_p_1 g3_p_1 B3 z3; rintro w' ⟨h0, h1, h2, h3, h4, h5, h6, h7, h8, h9, h10, h11⟩; go_simp
  · clear k3_a_0 g3_a_0 k3_a_1 g3_a_1 k3_b_0 g3_b_0 k3_b_1 g3_b_1 k3_p_0 g3_p_0 k3_p_1 g3_p_1 B3 z3; rintro w' ⟨h0, h1, h2, h3, h4, h5, h6, h7, h8, h9, h10, h11⟩; exact between_any (hold x) (hold y) (hold s) (hold t) (by omega) (by omega) (by omega) (by omega) (by omega) (by omega) (by omega) (by omega) _
  · clear k3_a_0 g3_a_0 k3_a_1 g3_a_1 k3_b_0 g3_b_0 k3_b_1 g3_b_1 k3_p_0 g3_p_0 k3_p_1 g3_p_1 B3 z3; rintro w' ⟨h0, h1, h2, h3, h4, h5, h6, h7, h8, h9, h10, h11⟩; go_simp
  · clear k3_a_0 g3_a_0 k3_a_1 g3_a_1 k3_b_0 g3_b_0 k3_b_1 g3_b_1 k3_p_0 g3_p_0 k3_p_1 g3_p_1 B3 z3; rintro w' ⟨h0, h1, h2, h3, h4, h5, h6, h7, h8, h9, h10, h11⟩; exact cross_any (hold u - hold x) (hold v - hold y) (hold s - hold x) (hold t - hold y) (by omega) (by omega) (by omega) (by omega) (by omega) (by omega) (by omega) (by omega) _
  · clear k3_a_0 g3_a_0 k3_a_1 g3_a_1 k3_b_0 g3_b_0 k3_b_1 g3_b_1 k3_p_0 g3_p_0 k3_p_1 g3_p_1 B3 z3; rintro w' ⟨h0, h1, h2, h3, h4, h5, h6, h7, h8, h9, h10, h11⟩; go_simp
  · clear k3_a_0 g3_a_0 k3_a_1 g3_a_1 k3_b_0 g3_b_0 k3_b_1 g3_b_1 k3_p_0 g3_p_0 k3_p_1 g3_p_1 B3 z3; rintro w' ⟨h0, h1, h2, h3, h4, h5, h6, h7, h8, h9, h10, h11⟩; exact (clamp_any (crs (hold x) (hold y) (hold u) (hold v) (hold s) (hold t)) (-1) 1 _).mono (by rintro e w2 ⟨rfl, rfl⟩; exact ⟨rfl, Below.refl _ _⟩)
  · clear k3_a_0 g3_a_0 k3_a_1 g3_a_1 k3_b_0 g3_b_0 k3_b_1 g3_b_1 k3_p_0 g3_p_0 k3_p_1 g3_p_1 B3 z3; rintro w' ⟨h0, h1, h2, h3, h4, h5, h6, h7, h8, h9, h10, h11⟩; go_simp; try exact IntWalk.i64_in _ (by omega)
  rintro w4 ⟨h0, h1, h2, h3, h4, h5, h6, h7, h8, h9, h10, h11⟩ hb4 hF
  clear hF
  have k4_a_0 := bcs hb4 k3_a_0
  have g4_a_0 := bfs hb4 k3_a_0 g3_a_0
  have k4_a_1 := bcs hb4 k3_a_1
  have g4_a_1 := bfs hb4 k3_a_1 g3_a_1
  have k4_b_0 := bcs hb4 k3_b_0
  have g4_b_0 := bfs hb4 k3_b_0 g3_b_0
  have k4_b_1 := bcs hb4 k3_b_1
  have g4_b_1 := bfs hb4 k3_b_1 g3_b_1
  have k4_p_0 := bcs hb4 k3_p_0
  have g4_p_0 := bfs hb4 k3_p_0 g3_p_0
  have k4_p_1 := bcs hb4 k3_p_1
  have g4_p_1 := bfs hb4 k3_p_1 g3_p_1
  clear h0 h1 h2 h3 h4 h5 h6 h7 h8 h9 h10 h11
  have B4 := bel_step B3 hb4
  have z4 := Nat.le_trans z3 hb4.size
  clear hb4
  (try clear B3)
  (try clear z3)
  (try clear k3_a_0)
  (try clear g3_a_0)
  (try clear k3_a_1)
  (try clear g3_a_1)
  (try clear k3_b_0)
  (try clear g3_b_0)
  (try clear k3_b_1)
  (try clear g3_b_1)
  (try clear k3_p_0)
  (try clear g3_p_0)
  (try clear k3_p_1)
  (try clear g3_p_1)
  (try clear q3_a)
  (try clear x3_a)
  (try clear y3_a)
  (try clear q3_b)
  (try clear x3_b)
  (try clear y3_b)
  (try clear q3_p)
  (try clear x3_p)
  (try clear y3_p)
  have q4_a : w.heap.size < w4.heap.size := qlt k4_a_0
  have x4_a : ¬ w.heap.size = w4.heap.size := qne k4_a_0
  have y4_a : ¬ w4.heap.size = w.heap.size := fun h => qne k4_a_0 h.symm
  have q4_b : w.heap.size + 1 < w4.heap.size := qlt k4_b_0
  have x4_b : ¬ w.heap.size + 1 = w4.heap.size := qne k4_b_0
  have y4_b : ¬ w4.heap.size = w.heap.size + 1 := fun h => qne k4_b_0 h.symm
  have q4_p : w.heap.size + 1 + 1 < w4.heap.size := qlt k4_p_0
  have x4_p : ¬ w.heap.size + 1 + 1 = w4.heap.size := qne k4_p_0
  have y4_p : ¬ w4.heap.size = w.heap.size + 1 + 1 := fun h => qne k4_p_0 h.symm
  go_wp2
  go_ret
  refine ⟨rfl, ?_⟩
  repeat (first | with_reducible exact Below.refl _ _ | with_reducible exact B4 | with_reducible apply below_drewN | with_reducible apply Below.drew | (with_reducible refine Below.alloc ?_ (by first | (simp; done) | (simp; omega) | omega) _) | (with_reducible refine Below.setCell ?_ (by first | (simp; done) | (simp; omega) | omega) _))

end Go.Proofs.Ythofacdiajhjmaa
