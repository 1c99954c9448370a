
import Derived.Test.YthofacdiajhjmaaV1
import Derived.WalkKit
import Derived.WalkSpells
import Derived.WalkLawsBesides
import Derived.Lib.Hide
import Derived.Below
import Derived.Deep.QuietTactic
import Derived.BigQuiet
import Derived.Deep.RegionHeld3
import Derived.Deep.DrawnRows
import Derived.Deep.DeepFit
import Derived.IntWalk
namespace Go.Proofs.Ythofacdiajhjmaa
open Go.RowKit
set_option linter.unusedVariables false
set_option linter.unusedSimpArgs false
attribute [local go_sem ↓] Go.wp_at_zero Go.wp_at_succ

set_option maxHeartbeats 1000000 in
theorem between_any (x y u v : Int) (x0 : -1048576 ≤ x) (x1 : x ≤ 1048576) (y0 : -1048576 ≤ y) (y1 : y ≤ 1048576) (u0 : -1048576 ≤ u) (u1 : u ≤ 1048576) (v0 : -1048576 ≤ v) (v1 : v ≤ 1048576) (w : World) :
    Calls Try.prog 30 #[.agg #[.int .i64 x, .int .i64 y], .agg #[.int .i64 u, .int .i64 v]] w fun e w' => e = .returned (.agg #[.int .i64 (u - x), .int .i64 (v - y)]) ∧ Below w.heap.size w w' := by
  go_enter Try.func30, Try.ntmps30
  go_wp2
  refine bodyPost_ret (v := .agg #[.int .i64 (u - x), .int .i64 (v - y)]) (by simp [results, Try.results30, go_sem, *]) rfl ⟨rfl, ?_⟩
  repeat (first | with_reducible exact Below.refl _ _ | fail | with_reducible apply below_drewN | with_reducible apply Below.drew | (with_reducible refine Below.alloc ?_ (by first | (simp; done) | (simp; omega) | omega) _) | (with_reducible refine Below.setCell ?_ (by first | (simp; done) | (simp; omega) | omega) _))

set_option maxHeartbeats 1000000 in
theorem dot_any (x y u v : Int) (x0 : -2097152 ≤ x) (x1 : x ≤ 2097152) (y0 : -2097152 ≤ y) (y1 : y ≤ 2097152) (u0 : -2097152 ≤ u) (u1 : u ≤ 2097152) (v0 : -2097152 ≤ v) (v1 : v ≤ 2097152) (w : World) :
    Calls Try.prog 48 #[.agg #[.int .i64 x, .int .i64 y], .agg #[.int .i64 u, .int .i64 v]] w fun e w' => e = .returned (.int .i64 (x * u + y * v)) ∧ Below w.heap.size w w' := by
  have mxu := mul_bd x u 2097152 2097152 x0 x1 u0 u1
  have myv := mul_bd y v 2097152 2097152 y0 y1 v0 v1
  go_enter Try.func48, Try.ntmps48
  go_wp2
  go_ret
  refine ⟨rfl, ?_⟩
  repeat (first | with_reducible exact Below.refl _ _ | fail | with_reducible apply below_drewN | with_reducible apply Below.drew | (with_reducible refine Below.alloc ?_ (by first | (simp; done) | (simp; omega) | omega) _) | (with_reducible refine Below.setCell ?_ (by first | (simp; done) | (simp; omega) | omega) _))

set_option maxHeartbeats 1000000 in
theorem cross_any (x y u v : Int) (x0 : -2097152 ≤ x) (x1 : x ≤ 2097152) (y0 : -2097152 ≤ y) (y1 : y ≤ 2097152) (u0 : -2097152 ≤ u) (u1 : u ≤ 2097152) (v0 : -2097152 ≤ v) (v1 : v ≤ 2097152) (w : World) :
    Calls Try.prog 47 #[.agg #[.int .i64 x, .int .i64 y], .agg #[.int .i64 u, .int .i64 v]] w fun e w' => e = .returned (.int .i64 (x * v - y * u)) ∧ Below w.heap.size w w' := by
  have mxv := mul_bd x v 2097152 2097152 x0 x1 v0 v1
  have myu := mul_bd y u 2097152 2097152 y0 y1 u0 u1
  go_enter Try.func47, Try.ntmps47
  go_wp2
  go_ret
  refine ⟨rfl, ?_⟩
  repeat (first | with_reducible exact Below.refl _ _ | fail | with_reducible apply below_drewN | with_reducible apply Below.drew | (with_reducible refine Below.alloc ?_ (by first | (simp; done) | (simp; omega) | omega) _) | (with_reducible refine Below.setCell ?_ (by first | (simp; done) | (simp; omega) | omega) _))

set_option maxHeartbeats 1000000 in
theorem rsub_any (x y u v : Int) (w : World) :
    Calls Try.prog 32 #[.agg #[.int .i64 x, .int .i64 y], .agg #[.int .i64 u, .int .i64 v]] w fun e w' => e = .returned (.agg #[.int .i64 (hold x - hold u), .int .i64 (hold y - hold v)]) ∧ Below w.heap.size w w' := by
  obtain ⟨b0, b0'⟩ := hold_bd x
  obtain ⟨b1, b1'⟩ := hold_bd y
  obtain ⟨b2, b2'⟩ := hold_bd u
  obtain ⟨b3, b3'⟩ := hold_bd v
  go_enter Try.func32, Try.ntmps32
  go_wp2
  refine wp_region_ord (fun w' => w'.cell? ⟨w.heap.size, 0, none⟩ = some (.int .i64 x) ∧ w'.frozen? ⟨w.heap.size, 0, none⟩ = false ∧ w'.cell? ⟨w.heap.size, 1, none⟩ = some (.int .i64 y) ∧ w'.frozen? ⟨w.heap.size, 1, none⟩ = false ∧ w'.cell? ⟨w.heap.size + 1, 0, none⟩ = some (.int .i64 u) ∧ w'.frozen? ⟨w.heap.size + 1, 0, none⟩ = false ∧ w'.cell? ⟨w.heap.size + 1, 1, none⟩ = some (.int .i64 v) ∧ w'.frozen? ⟨w.heap.size + 1, 1, none⟩ = false) (fun W => W.cell? ⟨w.heap.size, 0, none⟩ = some (.int .i64 x) ∧ W.frozen? ⟨w.heap.size, 0, none⟩ = false ∧ W.cell? ⟨w.heap.size, 1, none⟩ = some (.int .i64 y) ∧ W.frozen? ⟨w.heap.size, 1, none⟩ = false ∧ W.cell? ⟨w.heap.size + 1, 0, none⟩ = some (.int .i64 u) ∧ W.frozen? ⟨w.heap.size + 1, 0, none⟩ = false ∧ W.cell? ⟨w.heap.size + 1, 1, none⟩ = some (.int .i64 v) ∧ W.frozen? ⟨w.heap.size + 1, 1, none⟩ = false ∧ W.cell? ⟨w.heap.size + 1 + 1, 0, none⟩ = some (.int .i64 0) ∧ W.frozen? ⟨w.heap.size + 1 + 1, 0, none⟩ = false ∧ W.cell? ⟨w.heap.size + 1 + 1, 1, none⟩ = some (.int .i64 0) ∧ W.frozen? ⟨w.heap.size + 1 + 1, 1, none⟩ = false ∧ Below w.heap.size w W ∧ w.heap.size + 1 + 1 + 1 ≤ W.heap.size) 6 [.val (.agg #[.int .i64 x, .int .i64 y]), .call 31 #[.agg #[.int .i64 x, .int .i64 y]] (.agg #[.int .i64 (hold x), .int .i64 (hold y)]), .val (.agg #[.int .i64 u, .int .i64 v]), .call 31 #[.agg #[.int .i64 u, .int .i64 v]] (.agg #[.int .i64 (hold u), .int .i64 (hold v)]), .fresh (.cells #[.int .i64 0, .int .i64 0] 31), .fresh (.cells #[.int .i64 0, .int .i64 0] 31)] (by kernel_rfl) (by kernel_rfl) (by rintro w1 w2 ⟨h0, h1, h2, h3, h4, h5, h6, h7⟩ hb; exact ⟨bcs hb h0, bfs hb h0 h1, bcs hb h2, bfs hb h2 h3, bcs hb h4, bfs hb h4 h5, bcs hb h6, bfs hb h6 h7⟩) ⟨by first | with_reducible assumption | go_simp, by first | with_reducible assumption | go_simp, by first | with_reducible assumption | go_simp, by first | with_reducible assumption | go_simp, by first | with_reducible assumption | go_simp, by first | with_reducible assumption | go_simp, by first | with_reducible assumption | go_simp, by first | with_reducible assumption | go_simp, by first | with_reducible assumption | go_simp, by first | with_reducible assumption | go_simp, by first | with_reducible assumption | go_simp, by first | with_reducible assumption | go_simp, by repeat (first | with_reducible exact Below.refl _ _ | fail | with_reducible apply below_drewN | with_reducible apply Below.drew | (with_reducible refine Below.alloc ?_ (by first | (simp; done) | (simp; omega) | omega) _) | (with_reducible refine Below.setCell ?_ (by first | (simp; done) | (simp; omega) | omega) _)), by first | with_reducible assumption | (simp; done) | (simp; omega)⟩ ?_ ?_
  · rintro W ⟨k1_p_0, g1_p_0, k1_p_1, g1_p_1, k1_q_0, g1_q_0, k1_q_1, g1_q_1, k1_r_0, g1_r_0, k1_r_1, g1_r_1, B1, z1⟩; exact ⟨k1_p_0, g1_p_0, k1_p_1, g1_p_1, k1_q_0, g1_q_0, k1_q_1, g1_q_1⟩
  rintro w1 ⟨k1_p_0, g1_p_0, k1_p_1, g1_p_1, k1_q_0, g1_q_0, k1_q_1, g1_q_1, k1_r_0, g1_r_0, k1_r_1, g1_r_1, B1, z1⟩ gg
  simp only [List.take_succ_cons, List.take_zero, List.drop_succ_cons, List.drop_zero, Obs, ob, Sp.get, Sp.news, Act.put, List.setIfInBounds_toArray, List.set_cons_zero, List.set_cons_succ, List.nil_append, List.cons_append, List.append_nil]
  refine ⟨⟨rfl, ?_⟩, ⟨rfl, ?_, ?_⟩, ⟨rfl, ?_⟩, ⟨rfl, ?_, ?_⟩, ⟨rfl, ?_⟩, ⟨rfl, ?_⟩, ?_⟩
  · clear k1_p_0 g1_p_0 k1_p_1 g1_p_1 k1_q_0 g1_q_0 k1_q_1 g1_q_1 k1_r_0 g1_r_0 k1_r_1 g1_r_1 B1 z1; rintro w' ⟨h0, h1, h2, h3, h4, h5, h6, h7⟩; go_simp; try exact IntWalk.i64_in _ (by omega)
  · clear k1_p_0 g1_p_0 k1_p_1 g1_p_1 k1_q_0 g1_q_0 k1_q_1 g1_q_1 k1_r_0 g1_r_0 k1_r_1 g1_r_1 B1 z1; rintro w' ⟨h0, h1, h2, h3, h4, h5, h6, h7⟩; go_simp
  · clear k1_p_0 g1_p_0 k1_p_1 g1_p_1 k1_q_0 g1_q_0 k1_q_1 g1_q_1 k1_r_0 g1_r_0 k1_r_1 g1_r_1 B1 z1; rintro w' ⟨h0, h1, h2, h3, h4, h5, h6, h7⟩; exact hold_any x y _
  · clear k1_p_0 g1_p_0 k1_p_1 g1_p_1 k1_q_0 g1_q_0 k1_q_1 g1_q_1 k1_r_0 g1_r_0 k1_r_1 g1_r_1 B1 z1; rintro w' ⟨h0, h1, h2, h3, h4, h5, h6, h7⟩; go_simp; try exact IntWalk.i64_in _ (by omega)
  · clear k1_p_0 g1_p_0 k1_p_1 g1_p_1 k1_q_0 g1_q_0 k1_q_1 g1_q_1 k1_r_0 g1_r_0 k1_r_1 g1_r_1 B1 z1; rintro w' ⟨h0, h1, h2, h3, h4, h5, h6, h7⟩; go_simp
  · clear k1_p_0 g1_p_0 k1_p_1 g1_p_1 k1_q_0 g1_q_0 k1_q_1 g1_q_1 k1_r_0 g1_r_0 k1_r_1 g1_r_1 B1 z1; rintro w' ⟨h0, h1, h2, h3, h4, h5, h6, h7⟩; exact hold_any u v _
  · clear k1_p_0 g1_p_0 k1_p_1 g1_p_1 k1_q_0 g1_q_0 k1_q_1 g1_q_1 k1_r_0 g1_r_0 k1_r_1 g1_r_1 B1 z1; rintro w' ⟨h0, h1, h2, h3, h4, h5, h6, h7⟩; go_simp
  · clear k1_p_0 g1_p_0 k1_p_1 g1_p_1 k1_q_0 g1_q_0 k1_q_1 g1_q_1 k1_r_0 g1_r_0 k1_r_1 g1_r_1 B1 z1; rintro w' ⟨h0, h1, h2, h3, h4, h5, h6, h7⟩; go_simp
  rintro w2 ⟨h0, h1, h2, h3, h4, h5, h6, h7⟩ hb2 hF
  have lga : w1.heap.size ≤ gg 4 := hF.1.1
  have uga : gg 4 < w2.heap.size := hF.1.2.1
  have pga : w2.heap[gg 4]? = some (.cells #[.int .i64 0, .int .i64 0] 31) := hF.1.2.2
  have nga_gb : ¬ gg 4 = gg 5 := hF.2.1 (5, .cells #[.int .i64 0, .int .i64 0] 31) (by simp)
  have lgb : w1.heap.size ≤ gg 5 := hF.2.2.1.1
  have ugb : gg 5 < w2.heap.size := hF.2.2.1.2.1
  have pgb : w2.heap[gg 5]? = some (.cells #[.int .i64 0, .int .i64 0] 31) := hF.2.2.1.2.2
  clear hF
  obtain ⟨ga, ega⟩ : ∃ x, gg 4 = x := ⟨_, rfl⟩
  rw [ega] at lga uga pga nga_gb ⊢
  clear ega
  obtain ⟨gb, egb⟩ : ∃ x, gg 5 = x := ⟨_, rfl⟩
  rw [egb] at lgb ugb pgb nga_gb ⊢
  clear egb
  clear gg
  have k2_p_0 := bcs hb2 k1_p_0
  have g2_p_0 := bfs hb2 k1_p_0 g1_p_0
  have k2_p_1 := bcs hb2 k1_p_1
  have g2_p_1 := bfs hb2 k1_p_1 g1_p_1
  have k2_q_0 := bcs hb2 k1_q_0
  have g2_q_0 := bfs hb2 k1_q_0 g1_q_0
  have k2_q_1 := bcs hb2 k1_q_1
  have g2_q_1 := bfs hb2 k1_q_1 g1_q_1
  have k2_r_0 := bcs hb2 k1_r_0
  have g2_r_0 := bfs hb2 k1_r_0 g1_r_0
  have k2_r_1 := bcs hb2 k1_r_1
  have g2_r_1 := bfs hb2 k1_r_1 g1_r_1
  clear h0 h1 h2 h3 h4 h5 h6 h7
  have B2 := bel_step B1 hb2
  have z2 := Nat.le_trans z1 hb2.size
  have mga : w.heap.size ≤ ga := by omega
  have nga_p : ¬ ga = w.heap.size := by omega
  have np_ga : ¬ w.heap.size = ga := by omega
  have nga_q : ¬ ga = w.heap.size + 1 := by omega
  have nq_ga : ¬ w.heap.size + 1 = ga := by omega
  have nga_r : ¬ ga = w.heap.size + 1 + 1 := by omega
  have nr_ga : ¬ w.heap.size + 1 + 1 = ga := by omega
  have k2_ga_0 : w2.cell? ⟨ga, 0, none⟩ = some (.int .i64 0) := cob pga 0 rfl
  have g2_ga_0 : w2.frozen? ⟨ga, 0, none⟩ = false := fob pga 0
  have k2_ga_1 : w2.cell? ⟨ga, 1, none⟩ = some (.int .i64 0) := cob pga 1 rfl
  have g2_ga_1 : w2.frozen? ⟨ga, 1, none⟩ = false := fob pga 1
  have mgb : w.heap.size ≤ gb := by omega
  have ngb_p : ¬ gb = w.heap.size := by omega
  have np_gb : ¬ w.heap.size = gb := by omega
  have ngb_q : ¬ gb = w.heap.size + 1 := by omega
  have nq_gb : ¬ w.heap.size + 1 = gb := by omega
  have ngb_r : ¬ gb = w.heap.size + 1 + 1 := by omega
  have nr_gb : ¬ w.heap.size + 1 + 1 = gb := by omega
  have k2_gb_0 : w2.cell? ⟨gb, 0, none⟩ = some (.int .i64 0) := cob pgb 0 rfl
  have g2_gb_0 : w2.frozen? ⟨gb, 0, none⟩ = false := fob pgb 0
  have k2_gb_1 : w2.cell? ⟨gb, 1, none⟩ = some (.int .i64 0) := cob pgb 1 rfl
  have g2_gb_1 : w2.frozen? ⟨gb, 1, none⟩ = false := fob pgb 1
  have ngb_ga : ¬ gb = ga := fun h => nga_gb h.symm
  clear lga uga pga
  clear lgb ugb pgb
  clear hb2
  (try clear B1)
  (try clear z1)
  (try clear k1_p_0)
  (try clear g1_p_0)
  (try clear k1_p_1)
  (try clear g1_p_1)
  (try clear k1_q_0)
  (try clear g1_q_0)
  (try clear k1_q_1)
  (try clear g1_q_1)
  (try clear k1_r_0)
  (try clear g1_r_0)
  (try clear k1_r_1)
  (try clear g1_r_1)
  (try clear q1_p)
  (try clear x1_p)
  (try clear y1_p)
  (try clear q1_q)
  (try clear x1_q)
  (try clear y1_q)
  (try clear q1_r)
  (try clear x1_r)
  (try clear y1_r)
  have q2_p : w.heap.size < w2.heap.size := qlt k2_p_0
  have x2_p : ¬ w.heap.size = w2.heap.size := qne k2_p_0
  have y2_p : ¬ w2.heap.size = w.heap.size := fun h => qne k2_p_0 h.symm
  have q2_q : w.heap.size + 1 < w2.heap.size := qlt k2_q_0
  have x2_q : ¬ w.heap.size + 1 = w2.heap.size := qne k2_q_0
  have y2_q : ¬ w2.heap.size = w.heap.size + 1 := fun h => qne k2_q_0 h.symm
  have q2_r : w.heap.size + 1 + 1 < w2.heap.size := qlt k2_r_0
  have x2_r : ¬ w.heap.size + 1 + 1 = w2.heap.size := qne k2_r_0
  have y2_r : ¬ w2.heap.size = w.heap.size + 1 + 1 := fun h => qne k2_r_0 h.symm
  have q2_ga : ga < w2.heap.size := qlt k2_ga_0
  have x2_ga : ¬ ga = w2.heap.size := qne k2_ga_0
  have y2_ga : ¬ w2.heap.size = ga := fun h => qne k2_ga_0 h.symm
  have q2_gb : gb < w2.heap.size := qlt k2_gb_0
  have x2_gb : ¬ gb = w2.heap.size := qne k2_gb_0
  have y2_gb : ¬ w2.heap.size = gb := fun h => qne k2_gb_0 h.symm
  go_wp2
  refine bodyPost_ret (v := .agg #[.int .i64 (hold x - hold u), .int .i64 (hold y - hold v)]) (by simp [results, Try.results32, go_sem, *]) rfl ⟨rfl, ?_⟩
  repeat (first | with_reducible exact Below.refl _ _ | with_reducible exact B2 | with_reducible apply below_drewN | with_reducible apply Below.drew | (with_reducible refine Below.alloc ?_ (by first | (simp; done) | (simp; omega) | omega) _) | (with_reducible refine Below.setCell ?_ (by first | (simp; done) | (simp; omega) | omega) _))

set_option maxHeartbeats 1000000 in
theorem vdot_any (x y u v : Int) (w : World) :
    Calls Try.prog 46 #[.agg #[.int .i64 x, .int .i64 y], .agg #[.int .i64 u, .int .i64 v]] w fun e w' => e = .returned (.int .i64 (hold x * hold u + hold y * hold v)) ∧ Below w.heap.size w w' := by
  obtain ⟨b0, b0'⟩ := hold_bd x
  obtain ⟨b1, b1'⟩ := hold_bd y
  obtain ⟨b2, b2'⟩ := hold_bd u
  obtain ⟨b3, b3'⟩ := hold_bd v
  go_enter Try.func46, Try.ntmps46
  go_wp2
  refine wp_region_ord (fun w' => w'.cell? ⟨w.heap.size, 0, none⟩ = some (.int .i64 x) ∧ w'.frozen? ⟨w.heap.size, 0, none⟩ = false ∧ w'.cell? ⟨w.heap.size, 1, none⟩ = some (.int .i64 y) ∧ w'.frozen? ⟨w.heap.size, 1, none⟩ = false ∧ w'.cell? ⟨w.heap.size + 1, 0, none⟩ = some (.int .i64 u) ∧ w'.frozen? ⟨w.heap.size + 1, 0, none⟩ = false ∧ w'.cell? ⟨w.heap.size + 1, 1, none⟩ = some (.int .i64 v) ∧ w'.frozen? ⟨w.heap.size + 1, 1, none⟩ = false) (fun W => W.cell? ⟨w.heap.size, 0, none⟩ = some (.int .i64 x) ∧ W.frozen? ⟨w.heap.size, 0, none⟩ = false ∧ W.cell? ⟨w.heap.size, 1, none⟩ = some (.int .i64 y) ∧ W.frozen? ⟨w.heap.size, 1, none⟩ = false ∧ W.cell? ⟨w.heap.size + 1, 0, none⟩ = some (.int .i64 u) ∧ W.frozen? ⟨w.heap.size + 1, 0, none⟩ = false ∧ W.cell? ⟨w.heap.size + 1, 1, none⟩ = some (.int .i64 v) ∧ W.frozen? ⟨w.heap.size + 1, 1, none⟩ = false ∧ Below w.heap.size w W ∧ w.heap.size + 1 + 1 ≤ W.heap.size) 6 [.val (.agg #[.int .i64 x, .int .i64 y]), .call 29 #[.agg #[.int .i64 x, .int .i64 y]] (.agg #[.int .i64 (hold x), .int .i64 (hold y)]), .val (.agg #[.int .i64 u, .int .i64 v]), .call 29 #[.agg #[.int .i64 u, .int .i64 v]] (.agg #[.int .i64 (hold u), .int .i64 (hold v)]), .call 48 #[.agg #[.int .i64 (hold x), .int .i64 (hold y)], .agg #[.int .i64 (hold u), .int .i64 (hold v)]] (.int .i64 (hold x * hold u + hold y * hold v)), .val (.int .i64 (hold x * hold u + hold y * hold v))] (by kernel_rfl) (by kernel_rfl) (by rintro w1 w2 ⟨h0, h1, h2, h3, h4, h5, h6, h7⟩ hb; exact ⟨bcs hb h0, bfs hb h0 h1, bcs hb h2, bfs hb h2 h3, bcs hb h4, bfs hb h4 h5, bcs hb h6, bfs hb h6 h7⟩) ⟨by first | with_reducible assumption | go_simp, by first | with_reducible assumption | go_simp, by first | with_reducible assumption | go_simp, by first | with_reducible assumption | go_simp, by first | with_reducible assumption | go_simp, by first | with_reducible assumption | go_simp, by first | with_reducible assumption | go_simp, by first | with_reducible assumption | go_simp, by repeat (first | with_reducible exact Below.refl _ _ | fail | with_reducible apply below_drewN | with_reducible apply Below.drew | (with_reducible refine Below.alloc ?_ (by first | (simp; done) | (simp; omega) | omega) _) | (with_reducible refine Below.setCell ?_ (by first | (simp; done) | (simp; omega) | omega) _)), by first | with_reducible assumption | (simp; done) | (simp; omega)⟩ ?_ ?_
  · rintro W ⟨k1_p_0, g1_p_0, k1_p_1, g1_p_1, k1_q_0, g1_q_0, k1_q_1, g1_q_1, B1, z1⟩; exact ⟨k1_p_0, g1_p_0, k1_p_1, g1_p_1, k1_q_0, g1_q_0, k1_q_1, g1_q_1⟩
  rintro w1 ⟨k1_p_0, g1_p_0, k1_p_1, g1_p_1, k1_q_0, g1_q_0, k1_q_1, g1_q_1, B1, z1⟩ gg
  simp only [List.take_succ_cons, List.take_zero, List.drop_succ_cons, List.drop_zero, Obs, ob, Sp.get, Sp.news, Act.put, List.setIfInBounds_toArray, List.set_cons_zero, List.set_cons_succ, List.nil_append, List.cons_append, List.append_nil]
  refine ⟨⟨rfl, ?_⟩, ⟨rfl, ?_, ?_⟩, ⟨rfl, ?_⟩, ⟨rfl, ?_, ?_⟩, ⟨rfl, ?_, ?_⟩, ⟨rfl, ?_⟩, ?_⟩
  · clear k1_p_0 g1_p_0 k1_p_1 g1_p_1 k1_q_0 g1_q_0 k1_q_1 g1_q_1 B1 z1; rintro w' ⟨h0, h1, h2, h3, h4, h5, h6, h7⟩; go_simp; try exact IntWalk.i64_in _ (by omega)
  · clear k1_p_0 g1_p_0 k1_p_1 g1_p_1 k1_q_0 g1_q_0 k1_q_1 g1_q_1 B1 z1; rintro w' ⟨h0, h1, h2, h3, h4, h5, h6, h7⟩; go_simp
  · clear k1_p_0 g1_p_0 k1_p_1 g1_p_1 k1_q_0 g1_q_0 k1_q_1 g1_q_1 B1 z1; rintro w' ⟨h0, h1, h2, h3, h4, h5, h6, h7⟩; exact vclamp_any x y _
  · clear k1_p_0 g1_p_0 k1_p_1 g1_p_1 k1_q_0 g1_q_0 k1_q_1 g1_q_1 B1 z1; rintro w' ⟨h0, h1, h2, h3, h4, h5, h6, h7⟩; go_simp; try exact IntWalk.i64_in _ (by omega)
  · clear k1_p_0 g1_p_0 k1_p_1 g1_p_1 k1_q_0 g1_q_0 k1_q_1 g1_q_1 B1 z1; rintro w' ⟨h0, h1, h2, h3, h4, h5, h6, h7⟩; go_simp
  · clear k1_p_0 g1_p_0 k1_p_1 g1_p_1 k1_q_0 g1_q_0 k1_q_1 g1_q_1 B1 z1; rintro w' ⟨h0, h1, h2, h3, h4, h5, h6, h7⟩; exact vclamp_any u v _
  · clear k1_p_0 g1_p_0 k1_p_1 g1_p_1 k1_q_0 g1_q_0 k1_q_1 g1_q_1 B1 z1; rintro w' ⟨h0, h1, h2, h3, h4, h5, h6, h7⟩; go_simp
  · clear k1_p_0 g1_p_0 k1_p_1 g1_p_1 k1_q_0 g1_q_0 k1_q_1 g1_q_1 B1 z1; rintro w' ⟨h0, h1, h2, h3, h4, h5, h6, h7⟩; exact dot_any (hold x) (hold y) (hold u) (hold v) (by omega) (by omega) (by omega) (by omega) (by omega) (by omega) (by omega) (by omega) _
  · clear k1_p_0 g1_p_0 k1_p_1 g1_p_1 k1_q_0 g1_q_0 k1_q_1 g1_q_1 B1 z1; rintro w' ⟨h0, h1, h2, h3, h4, h5, h6, h7⟩; go_simp; try exact IntWalk.i64_in _ (by omega)
  rintro w2 ⟨h0, h1, h2, h3, h4, h5, h6, h7⟩ hb2 hF
  clear hF
  have k2_p_0 := bcs hb2 k1_p_0
  have g2_p_0 := bfs hb2 k1_p_0 g1_p_0
  have k2_p_1 := bcs hb2 k1_p_1
  have g2_p_1 := bfs hb2 k1_p_1 g1_p_1
  have k2_q_0 := bcs hb2 k1_q_0
  have g2_q_0 := bfs hb2 k1_q_0 g1_q_0
  have k2_q_1 := bcs hb2 k1_q_1
  have g2_q_1 := bfs hb2 k1_q_1 g1_q_1
  clear h0 h1 h2 h3 h4 h5 h6 h7
  have B2 := bel_step B1 hb2
  have z2 := Nat.le_trans z1 hb2.size
  clear hb2
  (try clear B1)
  (try clear z1)
  (try clear k1_p_0)
  (try clear g1_p_0)
  (try clear k1_p_1)
  (try clear g1_p_1)
  (try clear k1_q_0)
  (try clear g1_q_0)
  (try clear k1_q_1)
  (try clear g1_q_1)
  (try clear q1_p)
  (try clear x1_p)
  (try clear y1_p)
  (try clear q1_q)
  (try clear x1_q)
  (try clear y1_q)
  have q2_p : w.heap.size < w2.heap.size := qlt k2_p_0
  have x2_p : ¬ w.heap.size = w2.heap.size := qne k2_p_0
  have y2_p : ¬ w2.heap.size = w.heap.size := fun h => qne k2_p_0 h.symm
  have q2_q : w.heap.size + 1 < w2.heap.size := qlt k2_q_0
  have x2_q : ¬ w.heap.size + 1 = w2.heap.size := qne k2_q_0
  have y2_q : ¬ w2.heap.size = w.heap.size + 1 := fun h => qne k2_q_0 h.symm
  go_wp2
  go_ret
  refine ⟨rfl, ?_⟩
  repeat (first | with_reducible exact Below.refl _ _ | with_reducible exact B2 | with_reducible apply below_drewN | with_reducible apply Below.drew | (with_reducible refine Below.alloc ?_ (by first | (simp; done) | (simp; omega) | omega) _) | (with_reducible refine Below.setCell ?_ (by first | (simp; done) | (simp; omega) | omega) _))

end Go.Proofs.Ythofacdiajhjmaa
