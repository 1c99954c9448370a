
import Derived.Test.YtciaidlkhlgflaaR3
import Derived.Maps.AppendAt
import Derived.OwnWalk
import Derived.Laws.AppendOwn
import Derived.WalkKit
import Derived.WalkSpells
import Derived.WalkLawsBesides
import Derived.Lib.Hide
import Derived.Below
import Derived.Deep.QuietTactic
import Derived.BigQuiet
import Derived.Deep.RegionHeld3
import Derived.Deep.DrawnRows
import Derived.Deep.DeepFit
import Derived.IntWalk
namespace Go.Proofs.Ytciaidlkhlgflaa
open Go.RowKit
set_option linter.unusedVariables false
set_option linter.unusedSimpArgs false
attribute [local go_sem ↓] Go.wp_at_zero Go.wp_at_succ
attribute [local go_sem] rhoF_tmp rhoF_const rhoF_global rhoF_func

set_option maxHeartbeats 1000000 in
theorem intersect_ex  (w : World) :
    Calls Try.prog 17 #[.agg #[.int .i64 0, .int .i64 0, .int .i64 4, .int .i64 4], .agg #[.int .i64 1, .int .i64 1, .int .i64 2, .int .i64 2]] w fun e w' => e = .returned (.agg #[.int .i64 1, .int .i64 1, .int .i64 2, .int .i64 2]) ∧ Below w.heap.size w w' := by
  have c1 := fun w => canon_any 0 0 4 4 w
  have c2 := fun w => canon_any 1 1 2 2 w
  rw [show cn (eR 0 0 4 4) 0 = 0 by decide, show cn (eR 0 0 4 4) 4 = 4 by decide] at c1
  rw [show cn (eR 1 1 2 2) 1 = 1 by decide, show cn (eR 1 1 2 2) 2 = 2 by decide] at c2
  go_enter Try.func17, Try.ntmps17
  go_wp2
  refine wp_region_env (fun w' => w'.cell? ⟨w.heap.size, 0, none⟩ = some (.int .i64 0) ∧ w'.frozen? ⟨w.heap.size, 0, none⟩ = false ∧ w'.cell? ⟨w.heap.size, 1, none⟩ = some (.int .i64 0) ∧ w'.frozen? ⟨w.heap.size, 1, none⟩ = false ∧ w'.cell? ⟨w.heap.size, 2, none⟩ = some (.int .i64 4) ∧ w'.frozen? ⟨w.heap.size, 2, none⟩ = false ∧ w'.cell? ⟨w.heap.size, 3, none⟩ = some (.int .i64 4) ∧ w'.frozen? ⟨w.heap.size, 3, none⟩ = false ∧ w'.cell? ⟨w.heap.size + 1, 0, none⟩ = some (.int .i64 1) ∧ w'.frozen? ⟨w.heap.size + 1, 0, none⟩ = false ∧ w'.cell? ⟨w.heap.size + 1, 1, none⟩ = some (.int .i64 1) ∧ w'.frozen? ⟨w.heap.size + 1, 1, none⟩ = false ∧ w'.cell? ⟨w.heap.size + 1, 2, none⟩ = some (.int .i64 2) ∧ w'.frozen? ⟨w.heap.size + 1, 2, none⟩ = false ∧ w'.cell? ⟨w.heap.size + 1, 3, none⟩ = some (.int .i64 2) ∧ w'.frozen? ⟨w.heap.size + 1, 3, none⟩ = false ∧ w'.cell? ⟨w.heap.size + 1 + 1, 0, none⟩ = some (.int .i64 0) ∧ w'.frozen? ⟨w.heap.size + 1 + 1, 0, none⟩ = false ∧ w'.cell? ⟨w.heap.size + 1 + 1, 1, none⟩ = some (.int .i64 0) ∧ w'.frozen? ⟨w.heap.size + 1 + 1, 1, none⟩ = false ∧ w'.cell? ⟨w.heap.size + 1 + 1, 2, none⟩ = some (.int .i64 0) ∧ w'.frozen? ⟨w.heap.size + 1 + 1, 2, none⟩ = false ∧ w'.cell? ⟨w.heap.size + 1 + 1, 3, none⟩ = some (.int .i64 0) ∧ w'.frozen? ⟨w.heap.size + 1 + 1, 3, none⟩ = false) (fun W => W.cell? ⟨w.heap.size, 0, none⟩ = some (.int .i64 0) ∧ W.frozen? ⟨w.heap.size, 0, none⟩ = false ∧ W.cell? ⟨w.heap.size, 1, none⟩ = some (.int .i64 0) ∧ W.frozen? ⟨w.heap.size, 1, none⟩ = false ∧ W.cell? ⟨w.heap.size, 2, none⟩ = some (.int .i64 4) ∧ W.frozen? ⟨w.heap.size, 2, none⟩ = false ∧ W.cell? ⟨w.heap.size, 3, none⟩ = some (.int .i64 4) ∧ W.frozen? ⟨w.heap.size, 3, none⟩ = false ∧ W.cell? ⟨w.heap.size + 1, 0, none⟩ = some (.int .i64 1) ∧ W.frozen? ⟨w.heap.size + 1, 0, none⟩ = false ∧ W.cell? ⟨w.heap.size + 1, 1, none⟩ = some (.int .i64 1) ∧ W.frozen? ⟨w.heap.size + 1, 1, none⟩ = false ∧ W.cell? ⟨w.heap.size + 1, 2, none⟩ = some (.int .i64 2) ∧ W.frozen? ⟨w.heap.size + 1, 2, none⟩ = false ∧ W.cell? ⟨w.heap.size + 1, 3, none⟩ = some (.int .i64 2) ∧ W.frozen? ⟨w.heap.size + 1, 3, none⟩ = false ∧ W.cell? ⟨w.heap.size + 1 + 1, 0, none⟩ = some (.int .i64 0) ∧ W.frozen? ⟨w.heap.size + 1 + 1, 0, none⟩ = false ∧ W.cell? ⟨w.heap.size + 1 + 1, 1, none⟩ = some (.int .i64 0) ∧ W.frozen? ⟨w.heap.size + 1 + 1, 1, none⟩ = false ∧ W.cell? ⟨w.heap.size + 1 + 1, 2, none⟩ = some (.int .i64 0) ∧ W.frozen? ⟨w.heap.size + 1 + 1, 2, none⟩ = false ∧ W.cell? ⟨w.heap.size + 1 + 1, 3, none⟩ = some (.int .i64 0) ∧ W.frozen? ⟨w.heap.size + 1 + 1, 3, none⟩ = false ∧ Below w.heap.size w W ∧ w.heap.size + 1 + 1 + 1 ≤ W.heap.size) 4 31 [.val (.agg #[.int .i64 0, .int .i64 0, .int .i64 4, .int .i64 4]), .call 26 #[.agg #[.int .i64 0, .int .i64 0, .int .i64 4, .int .i64 4]] (.agg #[.int .i64 0, .int .i64 0, .int .i64 4, .int .i64 4]), .val (.agg #[.int .i64 1, .int .i64 1, .int .i64 2, .int .i64 2]), .call 26 #[.agg #[.int .i64 1, .int .i64 1, .int .i64 2, .int .i64 2]] (.agg #[.int .i64 1, .int .i64 1, .int .i64 2, .int .i64 2])] (by kernel_rfl) (by kernel_rfl) rfl (by kernel_rfl) (by rintro w1 w2 ⟨h0, h1, h2, h3, h4, h5, h6, h7, h8, h9, h10, h11, h12, h13, h14, h15, h16, h17, h18, h19, h20, h21, h22, h23⟩ hb; exact ⟨bcs hb h0, bfs hb h0 h1, bcs hb h2, bfs hb h2 h3, bcs hb h4, bfs hb h4 h5, bcs hb h6, bfs hb h6 h7, bcs hb h8, bfs hb h8 h9, bcs hb h10, bfs hb h10 h11, bcs hb h12, bfs hb h12 h13, bcs hb h14, bfs hb h14 h15, bcs hb h16, bfs hb h16 h17, bcs hb h18, bfs hb h18 h19, bcs hb h20, bfs hb h20 h21, bcs hb h22, bfs hb h22 h23⟩) ⟨by first | with_reducible assumption | go_simp, by first | with_reducible assumption | go_simp, by first | with_reducible assumption | go_simp, by first | with_reducible assumption | go_simp, by first | with_reducible assumption | go_simp, by first | with_reducible assumption | go_simp, by first | with_reducible assumption | go_simp, by first | with_reducible assumption | go_simp, by first | with_reducible assumption | go_simp, by first | with_reducible assumption | go_simp, by first | with_reducible assumption | go_simp, by first | with_reducible assumption | go_simp, by first | with_reducible assumption | go_simp, by first | with_reducible assumption | go_simp, by first | with_reducible assumption | go_simp, by first | with_reducible assumption | go_simp, by first | with_reducible assumption | go_simp, by first | with_reducible assumption | go_simp, by first | with_reducible assumption | go_simp, by first | with_reducible assumption | go_simp, by first | with_reducible assumption | go_simp, by first | with_reducible assumption | go_simp, by first | with_reducible assumption | go_simp, by first | with_reducible assumption | go_simp, by repeat (first | with_reducible exact Below.refl _ _ | fail | with_reducible apply below_drewN | with_reducible apply Below.drew | (with_reducible refine Below.alloc ?_ (by first | (simp; done) | (simp; omega) | omega) _) | (with_reducible refine Below.setCell ?_ (by first | (simp; done) | (simp; omega) | omega) _)), by first | with_reducible assumption | (simp; done) | (simp; omega)⟩ ?_ ?_
  · rintro W ⟨k1_b2_0, g1_b2_0, k1_b2_1, g1_b2_1, k1_b2_2, g1_b2_2, k1_b2_3, g1_b2_3, k1_b3_0, g1_b3_0, k1_b3_1, g1_b3_1, k1_b3_2, g1_b3_2, k1_b3_3, g1_b3_3, k1_b4_0, g1_b4_0, k1_b4_1, g1_b4_1, k1_b4_2, g1_b4_2, k1_b4_3, g1_b4_3, B1, z1⟩; exact ⟨k1_b2_0, g1_b2_0, k1_b2_1, g1_b2_1, k1_b2_2, g1_b2_2, k1_b2_3, g1_b2_3, k1_b3_0, g1_b3_0, k1_b3_1, g1_b3_1, k1_b3_2, g1_b3_2, k1_b3_3, g1_b3_3, k1_b4_0, g1_b4_0, k1_b4_1, g1_b4_1, k1_b4_2, g1_b4_2, k1_b4_3, g1_b4_3⟩
  rintro w1 ⟨k1_b2_0, g1_b2_0, k1_b2_1, g1_b2_1, k1_b2_2, g1_b2_2, k1_b2_3, g1_b2_3, k1_b3_0, g1_b3_0, k1_b3_1, g1_b3_1, k1_b3_2, g1_b3_2, k1_b3_3, g1_b3_3, k1_b4_0, g1_b4_0, k1_b4_1, g1_b4_1, k1_b4_2, g1_b4_2, k1_b4_3, g1_b4_3, B1, z1⟩ gg
  simp only [List.take_succ_cons, List.take_zero, List.drop_succ_cons, List.drop_zero, List.cons_append, List.nil_append, List.append_nil]
  refine obe_val (by rfl) ?_ ?_
  · clear k1_b2_0 g1_b2_0 k1_b2_1 g1_b2_1 k1_b2_2 g1_b2_2 k1_b2_3 g1_b2_3 k1_b3_0 g1_b3_0 k1_b3_1 g1_b3_1 k1_b3_2 g1_b3_2 k1_b3_3 g1_b3_3 k1_b4_0 g1_b4_0 k1_b4_1 g1_b4_1 k1_b4_2 g1_b4_2 k1_b4_3 g1_b4_3 B1 z1; intro f hf; have u2 : f 2 = (.pointer (some ⟨w.heap.size, 0, none⟩)) := (by rw [← hf]; rfl); clear hf; rintro w' ⟨h0, h1, h2, h3, h4, h5, h6, h7, h8, h9, h10, h11, h12, h13, h14, h15, h16, h17, h18, h19, h20, h21, h22, h23⟩; go_simp; try exact IntWalk.i64_in _ (by omega)
  refine obe_call (by rfl) ?_ ?_ ?_
  · clear k1_b2_0 g1_b2_0 k1_b2_1 g1_b2_1 k1_b2_2 g1_b2_2 k1_b2_3 g1_b2_3 k1_b3_0 g1_b3_0 k1_b3_1 g1_b3_1 k1_b3_2 g1_b3_2 k1_b3_3 g1_b3_3 k1_b4_0 g1_b4_0 k1_b4_1 g1_b4_1 k1_b4_2 g1_b4_2 k1_b4_3 g1_b4_3 B1 z1; intro f hf; have u5 : f 5 = (.agg #[.int .i64 0, .int .i64 0, .int .i64 4, .int .i64 4]) := (by rw [← hf]; rfl); clear hf; intro w' _; simp only [execOp, resolve, invoke, rhoF_tmp, rhoF_func, rhoF_const, u5, List.map_toArray, List.map_cons, List.map_nil]; go_simp
  · clear k1_b2_0 g1_b2_0 k1_b2_1 g1_b2_1 k1_b2_2 g1_b2_2 k1_b2_3 g1_b2_3 k1_b3_0 g1_b3_0 k1_b3_1 g1_b3_1 k1_b3_2 g1_b3_2 k1_b3_3 g1_b3_3 k1_b4_0 g1_b4_0 k1_b4_1 g1_b4_1 k1_b4_2 g1_b4_2 k1_b4_3 g1_b4_3 B1 z1; rintro w' ⟨h0, h1, h2, h3, h4, h5, h6, h7, h8, h9, h10, h11, h12, h13, h14, h15, h16, h17, h18, h19, h20, h21, h22, h23⟩; exact c1 _
  refine obe_val (by rfl) ?_ ?_
  · clear k1_b2_0 g1_b2_0 k1_b2_1 g1_b2_1 k1_b2_2 g1_b2_2 k1_b2_3 g1_b2_3 k1_b3_0 g1_b3_0 k1_b3_1 g1_b3_1 k1_b3_2 g1_b3_2 k1_b3_3 g1_b3_3 k1_b4_0 g1_b4_0 k1_b4_1 g1_b4_1 k1_b4_2 g1_b4_2 k1_b4_3 g1_b4_3 B1 z1; intro f hf; have u3 : f 3 = (.pointer (some ⟨w.heap.size + 1, 0, none⟩)) := (by rw [← hf]; rfl); clear hf; rintro w' ⟨h0, h1, h2, h3, h4, h5, h6, h7, h8, h9, h10, h11, h12, h13, h14, h15, h16, h17, h18, h19, h20, h21, h22, h23⟩; go_simp; try exact IntWalk.i64_in _ (by omega)
  refine obe_call (by rfl) ?_ ?_ ?_
  · clear k1_b2_0 g1_b2_0 k1_b2_1 g1_b2_1 k1_b2_2 g1_b2_2 k1_b2_3 g1_b2_3 k1_b3_0 g1_b3_0 k1_b3_1 g1_b3_1 k1_b3_2 g1_b3_2 k1_b3_3 g1_b3_3 k1_b4_0 g1_b4_0 k1_b4_1 g1_b4_1 k1_b4_2 g1_b4_2 k1_b4_3 g1_b4_3 B1 z1; intro f hf; have u7 : f 7 = (.agg #[.int .i64 1, .int .i64 1, .int .i64 2, .int .i64 2]) := (by rw [← hf]; rfl); clear hf; intro w' _; simp only [execOp, resolve, invoke, rhoF_tmp, rhoF_func, rhoF_const, u7, List.map_toArray, List.map_cons, List.map_nil]; go_simp
  · clear k1_b2_0 g1_b2_0 k1_b2_1 g1_b2_1 k1_b2_2 g1_b2_2 k1_b2_3 g1_b2_3 k1_b3_0 g1_b3_0 k1_b3_1 g1_b3_1 k1_b3_2 g1_b3_2 k1_b3_3 g1_b3_3 k1_b4_0 g1_b4_0 k1_b4_1 g1_b4_1 k1_b4_2 g1_b4_2 k1_b4_3 g1_b4_3 B1 z1; rintro w' ⟨h0, h1, h2, h3, h4, h5, h6, h7, h8, h9, h10, h11, h12, h13, h14, h15, h16, h17, h18, h19, h20, h21, h22, h23⟩; exact c2 _
  refine obe_nil ?_
  rintro w2 ⟨h0, h1, h2, h3, h4, h5, h6, h7, h8, h9, h10, h11, h12, h13, h14, h15, h16, h17, h18, h19, h20, h21, h22, h23⟩ hb2 hF
  (try simp only [List.nil_append, List.append_nil, List.cons_append] at hF)
  simp only [puts, putD, Act.put, List.setIfInBounds_toArray, List.set_cons_zero, List.set_cons_succ]
  clear hF
  have k2_b2_0 := bcs hb2 k1_b2_0
  have g2_b2_0 := bfs hb2 k1_b2_0 g1_b2_0
  have k2_b2_1 := bcs hb2 k1_b2_1
  have g2_b2_1 := bfs hb2 k1_b2_1 g1_b2_1
  have k2_b2_2 := bcs hb2 k1_b2_2
  have g2_b2_2 := bfs hb2 k1_b2_2 g1_b2_2
  have k2_b2_3 := bcs hb2 k1_b2_3
  have g2_b2_3 := bfs hb2 k1_b2_3 g1_b2_3
  have k2_b3_0 := bcs hb2 k1_b3_0
  have g2_b3_0 := bfs hb2 k1_b3_0 g1_b3_0
  have k2_b3_1 := bcs hb2 k1_b3_1
  have g2_b3_1 := bfs hb2 k1_b3_1 g1_b3_1
  have k2_b3_2 := bcs hb2 k1_b3_2
  have g2_b3_2 := bfs hb2 k1_b3_2 g1_b3_2
  have k2_b3_3 := bcs hb2 k1_b3_3
  have g2_b3_3 := bfs hb2 k1_b3_3 g1_b3_3
  have k2_b4_0 := bcs hb2 k1_b4_0
  have g2_b4_0 := bfs hb2 k1_b4_0 g1_b4_0
  have k2_b4_1 := bcs hb2 k1_b4_1
  have g2_b4_1 := bfs hb2 k1_b4_1 g1_b4_1
  have k2_b4_2 := bcs hb2 k1_b4_2
  have g2_b4_2 := bfs hb2 k1_b4_2 g1_b4_2
  have k2_b4_3 := bcs hb2 k1_b4_3
  have g2_b4_3 := bfs hb2 k1_b4_3 g1_b4_3
  clear h0 h1 h2 h3 h4 h5 h6 h7 h8 h9 h10 h11 h12 h13 h14 h15 h16 h17 h18 h19 h20 h21 h22 h23
  have B2 := bel_step B1 hb2
  have z2 := Nat.le_trans z1 hb2.size
  clear hb2
  (try clear B1)
  (try clear z1)
  (try clear k1_b2_0)
  (try clear g1_b2_0)
  (try clear k1_b2_1)
  (try clear g1_b2_1)
  (try clear k1_b2_2)
  (try clear g1_b2_2)
  (try clear k1_b2_3)
  (try clear g1_b2_3)
  (try clear k1_b3_0)
  (try clear g1_b3_0)
  (try clear k1_b3_1)
  (try clear g1_b3_1)
  (try clear k1_b3_2)
  (try clear g1_b3_2)
  (try clear k1_b3_3)
  (try clear g1_b3_3)
  (try clear k1_b4_0)
  (try clear g1_b4_0)
  (try clear k1_b4_1)
  (try clear g1_b4_1)
  (try clear k1_b4_2)
  (try clear g1_b4_2)
  (try clear k1_b4_3)
  (try clear g1_b4_3)
  (try clear q1_b2)
  (try clear x1_b2)
  (try clear y1_b2)
  (try clear q1_b3)
  (try clear x1_b3)
  (try clear y1_b3)
  (try clear q1_b4)
  (try clear x1_b4)
  (try clear y1_b4)
  have q2_b2 : w.heap.size < w2.heap.size := qlt k2_b2_0
  have x2_b2 : ¬ w.heap.size = w2.heap.size := qne k2_b2_0
  have y2_b2 : ¬ w2.heap.size = w.heap.size := fun h => qne k2_b2_0 h.symm
  have q2_b3 : w.heap.size + 1 < w2.heap.size := qlt k2_b3_0
  have x2_b3 : ¬ w.heap.size + 1 = w2.heap.size := qne k2_b3_0
  have y2_b3 : ¬ w2.heap.size = w.heap.size + 1 := fun h => qne k2_b3_0 h.symm
  have q2_b4 : w.heap.size + 1 + 1 < w2.heap.size := qlt k2_b4_0
  have x2_b4 : ¬ w.heap.size + 1 + 1 = w2.heap.size := qne k2_b4_0
  have y2_b4 : ¬ w2.heap.size = w.heap.size + 1 + 1 := fun h => qne k2_b4_0 h.symm
  go_wp2_with (first | (go_at_call 26; (with_reducible refine (c2 _).mono ?_); rintro e w3 ⟨rfl, hb3⟩; have k3_b2_0 : w3.cell? ⟨w.heap.size, 0, none⟩ = some (.int .i64 0) := bcs hb3 (by go_simp); have g3_b2_0 : w3.frozen? ⟨w.heap.size, 0, none⟩ = false := bfs hb3 (v := .int .i64 0) (by go_simp) (by go_simp); have k3_b2_1 : w3.cell? ⟨w.heap.size, 1, none⟩ = some (.int .i64 0) := bcs hb3 (by go_simp); have g3_b2_1 : w3.frozen? ⟨w.heap.size, 1, none⟩ = false := bfs hb3 (v := .int .i64 0) (by go_simp) (by go_simp); have k3_b2_2 : w3.cell? ⟨w.heap.size, 2, none⟩ = some (.int .i64 4) := bcs hb3 (by go_simp); have g3_b2_2 : w3.frozen? ⟨w.heap.size, 2, none⟩ = false := bfs hb3 (v := .int .i64 4) (by go_simp) (by go_simp); have k3_b2_3 : w3.cell? ⟨w.heap.size, 3, none⟩ = some (.int .i64 4) := bcs hb3 (by go_simp); have g3_b2_3 : w3.frozen? ⟨w.heap.size, 3, none⟩ = false := bfs hb3 (v := .int .i64 4) (by go_simp) (by go_simp); have k3_b3_0 : w3.cell? ⟨w.heap.size + 1, 0, none⟩ = some (.int .i64 1) := bcs hb3 (by go_simp); have g3_b3_0 : w3.frozen? ⟨w.heap.size + 1, 0, none⟩ = false := bfs hb3 (v := .int .i64 1) (by go_simp) (by go_simp); have k3_b3_1 : w3.cell? ⟨w.heap.size + 1, 1, none⟩ = some (.int .i64 1) := bcs hb3 (by go_simp); have g3_b3_1 : w3.frozen? ⟨w.heap.size + 1, 1, none⟩ = false := bfs hb3 (v := .int .i64 1) (by go_simp) (by go_simp); have k3_b3_2 : w3.cell? ⟨w.heap.size + 1, 2, none⟩ = some (.int .i64 2) := bcs hb3 (by go_simp); have g3_b3_2 : w3.frozen? ⟨w.heap.size + 1, 2, none⟩ = false := bfs hb3 (v := .int .i64 2) (by go_simp) (by go_simp); have k3_b3_3 : w3.cell? ⟨w.heap.size + 1, 3, none⟩ = some (.int .i64 2) := bcs hb3 (by go_simp); have g3_b3_3 : w3.frozen? ⟨w.heap.size + 1, 3, none⟩ = false := bfs hb3 (v := .int .i64 2) (by go_simp) (by go_simp); have k3_b4_0 : w3.cell? ⟨w.heap.size + 1 + 1, 0, none⟩ = some (.int .i64 0) := bcs hb3 (by go_simp); have g3_b4_0 : w3.frozen? ⟨w.heap.size + 1 + 1, 0, none⟩ = false := bfs hb3 (v := .int .i64 0) (by go_simp) (by go_simp); have k3_b4_1 : w3.cell? ⟨w.heap.size + 1 + 1, 1, none⟩ = some (.int .i64 0) := bcs hb3 (by go_simp); have g3_b4_1 : w3.frozen? ⟨w.heap.size + 1 + 1, 1, none⟩ = false := bfs hb3 (v := .int .i64 0) (by go_simp) (by go_simp); have k3_b4_2 : w3.cell? ⟨w.heap.size + 1 + 1, 2, none⟩ = some (.int .i64 0) := bcs hb3 (by go_simp); have g3_b4_2 : w3.frozen? ⟨w.heap.size + 1 + 1, 2, none⟩ = false := bfs hb3 (v := .int .i64 0) (by go_simp) (by go_simp); have k3_b4_3 : w3.cell? ⟨w.heap.size + 1 + 1, 3, none⟩ = some (.int .i64 0) := bcs hb3 (by go_simp); have g3_b4_3 : w3.frozen? ⟨w.heap.size + 1 + 1, 3, none⟩ = false := bfs hb3 (v := .int .i64 0) (by go_simp) (by go_simp); have q3_b2 : w.heap.size < w3.heap.size := qlt k3_b2_0; have x3_b2 : ¬ w.heap.size = w3.heap.size := qne k3_b2_0; have y3_b2 : ¬ w3.heap.size = w.heap.size := fun h => qne k3_b2_0 h.symm; have q3_b3 : w.heap.size + 1 < w3.heap.size := qlt k3_b3_0; have x3_b3 : ¬ w.heap.size + 1 = w3.heap.size := qne k3_b3_0; have y3_b3 : ¬ w3.heap.size = w.heap.size + 1 := fun h => qne k3_b3_0 h.symm; have q3_b4 : w.heap.size + 1 + 1 < w3.heap.size := qlt k3_b4_0; have x3_b4 : ¬ w.heap.size + 1 + 1 = w3.heap.size := qne k3_b4_0; have y3_b4 : ¬ w3.heap.size = w.heap.size + 1 + 1 := fun h => qne k3_b4_0 h.symm; have B3 : Below w.heap.size w w3 := bel_step (by repeat (first | with_reducible exact Below.refl _ _ | with_reducible exact B2 | with_reducible apply below_drewN | with_reducible apply Below.drew | (with_reducible refine Below.alloc ?_ (by first | (simp; done) | (simp; omega) | omega) _) | (with_reducible refine Below.setCell ?_ (by first | (simp; done) | (simp; omega) | omega) _))) hb3; have z3 : w.heap.size + 1 + 1 + 1 ≤ w3.heap.size := Nat.le_trans (by first | with_reducible assumption | (simp; done) | (simp; omega)) hb3.size; clear hb3; (try clear k2_b2_0); (try clear g2_b2_0); (try clear k2_b2_1); (try clear g2_b2_1); (try clear k2_b2_2); (try clear g2_b2_2); (try clear k2_b2_3); (try clear g2_b2_3); (try clear k2_b3_0); (try clear g2_b3_0); (try clear k2_b3_1); (try clear g2_b3_1); (try clear k2_b3_2); (try clear g2_b3_2); (try clear k2_b3_3); (try clear g2_b3_3); (try clear k2_b4_0); (try clear g2_b4_0); (try clear k2_b4_1); (try clear g2_b4_1); (try clear k2_b4_2); (try clear g2_b4_2); (try clear k2_b4_3); (try clear g2_b4_3); (try clear B2); (try clear z2); (try clear q2_b2); (try clear x2_b2); (try clear y2_b2); (try clear q2_b3); (try clear x2_b3); (try clear y2_b3); (try clear q2_b4); (try clear x2_b4); (try clear y2_b4)))
  refine bodyPost_ret (v := .agg #[.int .i64 1, .int .i64 1, .int .i64 2, .int .i64 2]) (by simp [results, Try.results17, go_sem, *]) rfl ⟨rfl, ?_⟩
  repeat (first | with_reducible exact Below.refl _ _ | with_reducible exact B3 | with_reducible apply below_drewN | with_reducible apply Below.drew | (with_reducible refine Below.alloc ?_ (by first | (simp; done) | (simp; omega) | omega) _) | (with_reducible refine Below.setCell ?_ (by first | (simp; done) | (simp; omega) | omega) _))

theorem own_below {w w1 : World} {base : Nat} {e : TypeId} {size : Nat} {v : Value} {n : Nat} {xs : List Value} (h : w.ownsRow base e size v n xs) (hb : Below w.heap.size w w1) : w1.ownsRow base e size v n xs :=
  h.kept (row := none) ⟨hb.os, hb.tape, hb.output, hb.size, fun k hk _ => hb.block k hk⟩ (by cases v.ownBlock <;> simp)
theorem heap_new2 (w : World) (o : Obj) (n : Nat) (h : n = w.heap.size) : (w.alloc o).heap[n]? = some o := by subst h; exact heap_alloc_new w o
theorem news4 (w : World) (a b c d : Value) (t : TypeId) : ∀ j u, [a, b, c, d][j]? = some u → (w.alloc (.cells #[a, b, c, d] t)).cell? ((⟨w.heap.size, 0, none⟩ : Addr).add j) = some u := by
  intro j u hj
  have e : ((⟨w.heap.size, 0, none⟩ : Addr).add j) = ⟨w.heap.size, j, none⟩ := by unfold Addr.add; split <;> simp_all
  rw [e]
  exact cob (heap_alloc_new w _) j (by simpa using hj)
theorem heap_below {w w1 : World} {g : Nat} {o : Obj} (h : w.heap[g]? = some o) (hb : Below w.heap.size w w1) : w1.heap[g]? = some o := (hb.block g (Array.getElem?_eq_some_iff.1 h).1).trans h
theorem sub_step {w wr w9 w1 : World} {A C X : Obj} {G n m : Nat} {e : TypeId} {v v' : Value} {xs ys : List Value} (hO : wr.ownsRow w.heap.size e 4 v n xs) (hG : wr.heap[G]? = some X) (hne : v.ownBlock ≠ some G) (hB : Below w.heap.size w wr)
    (h9 : Below (wr.alloc A).heap.size (wr.alloc A) w9) (hown1 : w1.ownsRow w.heap.size e 4 v' m ys) (hgrow : (w9.alloc C).grownBy w1 v.ownBlock) (hat : v'.ownBlock = v.ownBlock ∨ v'.ownBlock = some (w9.alloc C).heap.size) :
    w1.heap[G]? = some X ∧ v'.ownBlock ≠ some G ∧ Below w.heap.size w w1 := by
  have hw : w.heap.size ≤ wr.heap.size := hB.size
  have b1 : Below wr.heap.size wr (wr.alloc A) := (Below.refl _ _).alloc (Nat.le_refl _) _
  have b2 : Below wr.heap.size wr w9 := bel_step b1 h9
  have b3 : Below wr.heap.size wr (w9.alloc C) := b2.alloc b2.size _
  have hG3 := heap_below hG b3
  have hlt : G < (w9.alloc C).heap.size := (Array.getElem?_eq_some_iff.1 hG3).1
  refine ⟨(hgrow.block G hlt (fun h => hne h.symm)).trans hG3, ?_, ?_⟩
  · rcases hat with h | h
    · rw [h]; exact hne
    · rw [h]; intro k; injection k with k; omega
  · have b4 : Below w.heap.size w (w9.alloc C) := bel_step hB b3
    exact b4.grown hgrow b4.size (fun k hk => (hO.lt k hk).1)
theorem info_rect : (Try.prog.info? 23).map (fun i => (i.zero, i.size, i.bytes)) = some (some (.agg #[.int .i64 0, .int .i64 0, .int .i64 0, .int .i64 0]), 4, 32) := by kernel_rfl
def SubPost (w : World) (e : Ending) (w' : World) : Prop := ∃ v : Value, e = .returned v ∧ w'.ownsRow w.heap.size 23 4 v 4 [.int .i64 0, .int .i64 0, .int .i64 4, .int .i64 1, .int .i64 0, .int .i64 1, .int .i64 1, .int .i64 2, .int .i64 2, .int .i64 1, .int .i64 4, .int .i64 2, .int .i64 0, .int .i64 2, .int .i64 4, .int .i64 4] ∧ Below w.heap.size w w'

set_option maxHeartbeats 2000000 in
theorem subtract_ex (w : World) : Calls Try.prog 11 #[.agg #[.int .i64 0, .int .i64 0, .int .i64 4, .int .i64 4], .agg #[.int .i64 1, .int .i64 1, .int .i64 2, .int .i64 2]] w (SubPost w) := by
  have c1 := fun w => canon_any 0 0 4 4 w
  rw [show cn (eR 0 0 4 4) 0 = 0 by decide, show cn (eR 0 0 4 4) 4 = 4 by decide] at c1
  go_enter Try.func11, Try.ntmps11
  obtain ⟨i0, hi, hz0, hz1, hz2⟩ := info_parts info_rect
  go_wp2_with (first | (go_at_call 26; (with_reducible refine (c1 _).mono ?_); rintro e w1 ⟨rfl, hb1⟩; have k1_p_0 : w1.cell? ⟨w.heap.size, 0, none⟩ = some (.int .i64 0) := bcs hb1 (by go_simp); have g1_p_0 : w1.frozen? ⟨w.heap.size, 0, none⟩ = false := bfs hb1 (v := .int .i64 0) (by go_simp) (by go_simp); have k1_p_1 : w1.cell? ⟨w.heap.size, 1, none⟩ = some (.int .i64 0) := bcs hb1 (by go_simp); have g1_p_1 : w1.frozen? ⟨w.heap.size, 1, none⟩ = false := bfs hb1 (v := .int .i64 0) (by go_simp) (by go_simp); have k1_p_2 : w1.cell? ⟨w.heap.size, 2, none⟩ = some (.int .i64 4) := bcs hb1 (by go_simp); have g1_p_2 : w1.frozen? ⟨w.heap.size, 2, none⟩ = false := bfs hb1 (v := .int .i64 4) (by go_simp) (by go_simp); have k1_p_3 : w1.cell? ⟨w.heap.size, 3, none⟩ = some (.int .i64 4) := bcs hb1 (by go_simp); have g1_p_3 : w1.frozen? ⟨w.heap.size, 3, none⟩ = false := bfs hb1 (v := .int .i64 4) (by go_simp) (by go_simp); have k1_q_0 : w1.cell? ⟨w.heap.size + 1, 0, none⟩ = some (.int .i64 1) := bcs hb1 (by go_simp); have g1_q_0 : w1.frozen? ⟨w.heap.size + 1, 0, none⟩ = false := bfs hb1 (v := .int .i64 1) (by go_simp) (by go_simp); have k1_q_1 : w1.cell? ⟨w.heap.size + 1, 1, none⟩ = some (.int .i64 1) := bcs hb1 (by go_simp); have g1_q_1 : w1.frozen? ⟨w.heap.size + 1, 1, none⟩ = false := bfs hb1 (v := .int .i64 1) (by go_simp) (by go_simp); have k1_q_2 : w1.cell? ⟨w.heap.size + 1, 2, none⟩ = some (.int .i64 2) := bcs hb1 (by go_simp); have g1_q_2 : w1.frozen? ⟨w.heap.size + 1, 2, none⟩ = false := bfs hb1 (v := .int .i64 2) (by go_simp) (by go_simp); have k1_q_3 : w1.cell? ⟨w.heap.size + 1, 3, none⟩ = some (.int .i64 2) := bcs hb1 (by go_simp); have g1_q_3 : w1.frozen? ⟨w.heap.size + 1, 3, none⟩ = false := bfs hb1 (v := .int .i64 2) (by go_simp) (by go_simp); have q1_p : w.heap.size < w1.heap.size := qlt k1_p_0; have x1_p : ¬ w.heap.size = w1.heap.size := qne k1_p_0; have y1_p : ¬ w1.heap.size = w.heap.size := fun h => qne k1_p_0 h.symm; have q1_q : w.heap.size + 1 < w1.heap.size := qlt k1_q_0; have x1_q : ¬ w.heap.size + 1 = w1.heap.size := qne k1_q_0; have y1_q : ¬ w1.heap.size = w.heap.size + 1 := fun h => qne k1_q_0 h.symm; have B1 : Below w.heap.size w w1 := bel_step (by repeat (first | with_reducible exact Below.refl _ _ | fail | with_reducible apply below_drewN | with_reducible apply Below.drew | (with_reducible refine Below.alloc ?_ (by first | (simp; done) | (simp; omega) | omega) _) | (with_reducible refine Below.setCell ?_ (by first | (simp; done) | (simp; omega) | omega) _))) hb1; have z1 : w.heap.size + 1 + 1 ≤ w1.heap.size := Nat.le_trans (by first | with_reducible assumption | (simp; done) | (simp; omega)) hb1.size; clear hb1) | (go_at_call 17; (with_reducible refine (intersect_ex _).mono ?_); rintro e w2 ⟨rfl, hb2⟩; have k2_p_0 : w2.cell? ⟨w.heap.size, 0, none⟩ = some (.int .i64 0) := bcs hb2 (by go_simp); have g2_p_0 : w2.frozen? ⟨w.heap.size, 0, none⟩ = false := bfs hb2 (v := .int .i64 0) (by go_simp) (by go_simp); have k2_p_1 : w2.cell? ⟨w.heap.size, 1, none⟩ = some (.int .i64 0) := bcs hb2 (by go_simp); have g2_p_1 : w2.frozen? ⟨w.heap.size, 1, none⟩ = false := bfs hb2 (v := .int .i64 0) (by go_simp) (by go_simp); have k2_p_2 : w2.cell? ⟨w.heap.size, 2, none⟩ = some (.int .i64 4) := bcs hb2 (by go_simp); have g2_p_2 : w2.frozen? ⟨w.heap.size, 2, none⟩ = false := bfs hb2 (v := .int .i64 4) (by go_simp) (by go_simp); have k2_p_3 : w2.cell? ⟨w.heap.size, 3, none⟩ = some (.int .i64 4) := bcs hb2 (by go_simp); have g2_p_3 : w2.frozen? ⟨w.heap.size, 3, none⟩ = false := bfs hb2 (v := .int .i64 4) (by go_simp) (by go_simp); have k2_q_0 : w2.cell? ⟨w.heap.size + 1, 0, none⟩ = some (.int .i64 1) := bcs hb2 (by go_simp); have g2_q_0 : w2.frozen? ⟨w.heap.size + 1, 0, none⟩ = false := bfs hb2 (v := .int .i64 1) (by go_simp) (by go_simp); have k2_q_1 : w2.cell? ⟨w.heap.size + 1, 1, none⟩ = some (.int .i64 1) := bcs hb2 (by go_simp); have g2_q_1 : w2.frozen? ⟨w.heap.size + 1, 1, none⟩ = false := bfs hb2 (v := .int .i64 1) (by go_simp) (by go_simp); have k2_q_2 : w2.cell? ⟨w.heap.size + 1, 2, none⟩ = some (.int .i64 2) := bcs hb2 (by go_simp); have g2_q_2 : w2.frozen? ⟨w.heap.size + 1, 2, none⟩ = false := bfs hb2 (v := .int .i64 2) (by go_simp) (by go_simp); have k2_q_3 : w2.cell? ⟨w.heap.size + 1, 3, none⟩ = some (.int .i64 2) := bcs hb2 (by go_simp); have g2_q_3 : w2.frozen? ⟨w.heap.size + 1, 3, none⟩ = false := bfs hb2 (v := .int .i64 2) (by go_simp) (by go_simp); have q2_p : w.heap.size < w2.heap.size := qlt k2_p_0; have x2_p : ¬ w.heap.size = w2.heap.size := qne k2_p_0; have y2_p : ¬ w2.heap.size = w.heap.size := fun h => qne k2_p_0 h.symm; have q2_q : w.heap.size + 1 < w2.heap.size := qlt k2_q_0; have x2_q : ¬ w.heap.size + 1 = w2.heap.size := qne k2_q_0; have y2_q : ¬ w2.heap.size = w.heap.size + 1 := fun h => qne k2_q_0 h.symm; have B2 : Below w.heap.size w w2 := bel_step (by repeat (first | with_reducible exact Below.refl _ _ | with_reducible exact B1 | with_reducible apply below_drewN | with_reducible apply Below.drew | (with_reducible refine Below.alloc ?_ (by first | (simp; done) | (simp; omega) | omega) _) | (with_reducible refine Below.setCell ?_ (by first | (simp; done) | (simp; omega) | omega) _))) hb2; have z2 : w.heap.size + 1 + 1 ≤ w2.heap.size := Nat.le_trans (by first | with_reducible assumption | (simp; done) | (simp; omega)) hb2.size; clear hb2; (try clear k1_p_0); (try clear g1_p_0); (try clear k1_p_1); (try clear g1_p_1); (try clear k1_p_2); (try clear g1_p_2); (try clear k1_p_3); (try clear g1_p_3); (try clear k1_q_0); (try clear g1_q_0); (try clear k1_q_1); (try clear g1_q_1); (try clear k1_q_2); (try clear g1_q_2); (try clear k1_q_3); (try clear g1_q_3); (try clear B1); (try clear z1); (try clear q1_p); (try clear x1_p); (try clear y1_p); (try clear q1_q); (try clear x1_q); (try clear y1_q)))
  have hGG : w.heap.size ≤ w2.heap.size + 1 + 1 := by omega
  go_loopw [7, 59] (fun v k wr => ∃ j : Nat, j ≤ 4 ∧ k = .int .i64 (j : Int) ∧ wr.ownsRow w.heap.size 23 4 v j ([.int .i64 0, .int .i64 0, .int .i64 4, .int .i64 1, .int .i64 0, .int .i64 1, .int .i64 1, .int .i64 2, .int .i64 2, .int .i64 1, .int .i64 4, .int .i64 2, .int .i64 0, .int .i64 2, .int .i64 4, .int .i64 4].take (j * 4)) ∧ wr.heap[w2.heap.size + 1 + 1]? = some (.cells #[.int .i64 0, .int .i64 0, .int .i64 4, .int .i64 1, .int .i64 0, .int .i64 1, .int .i64 1, .int .i64 2, .int .i64 2, .int .i64 1, .int .i64 4, .int .i64 2, .int .i64 0, .int .i64 2, .int .i64 4, .int .i64 4] 23 (0, 0)) ∧ v.ownBlock ≠ some (w2.heap.size + 1 + 1) ∧ Below w.heap.size w wr) (fun _ k _ => (4 - intOf k).toNat)
  case atStart =>
    refine ⟨0, by omega, rfl, World.ownsRow_nil _ _ _ _, heap_new2 _ _ _ (by simp), by simp [Value.ownBlock], ?_⟩
    repeat (first | with_reducible exact Below.refl _ _ | with_reducible exact B2 | with_reducible apply below_drewN | with_reducible apply Below.drew | (with_reducible refine Below.alloc ?_ (by first | (simp; done) | (simp; omega) | omega) _) | (with_reducible refine Below.setCell ?_ (by first | (simp; done) | (simp; omega) | omega) _))
  case round =>
    obtain ⟨j, hj, rfl, hO, hG, hne, hB⟩ := hrel
    obtain rfl | rfl | rfl | rfl | rfl : j = 0 ∨ j = 1 ∨ j = 2 ∨ j = 3 ∨ j = 4 := by omega
    · rw [show ((0 : Nat) : Int) = 0 from rfl]
      have kc0 := cob hG 0 rfl
      have kc1 := cob hG 1 rfl
      have kc2 := cob hG 2 rfl
      have kc3 := cob hG 3 rfl
      have ce := fun w => empty_any 0 0 4 1 w
      rw [show eR 0 0 4 1 = false by decide] at ce
      have hO2 := hO
      have hG2 := Lib.hid hG
      have hne2 := Lib.hid hne
      clear hG hne
      have HO := Lib.hid hO2
      clear hO hO2
      go_wp2_with (first | (go_at_call 19; (with_reducible refine (ce _).mono ?_); rintro e w9 ⟨rfl, hb9⟩; have q0 : w9.cell? ⟨wr.heap.size, 0, none⟩ = some (.int .i64 0) := bcs hb9 (by go_simp); have q1 : w9.cell? ⟨wr.heap.size, 1, none⟩ = some (.int .i64 0) := bcs hb9 (by go_simp); have q2 : w9.cell? ⟨wr.heap.size, 2, none⟩ = some (.int .i64 4) := bcs hb9 (by go_simp); have q3 : w9.cell? ⟨wr.heap.size, 3, none⟩ = some (.int .i64 1) := bcs hb9 (by go_simp); have hO9 := Lib.hid (own_below (HO.out.alloc _) hb9); have hs9 : w.heap.size ≤ w9.heap.size := Nat.le_trans hB.size (Nat.le_trans (by simp) hb9.size)) | (at_builtin; refine wpList_append_own_at _ rfl _ _ 25 rfl (w.heap.size) 23 i0 _ 4 32 Try.underlying25 hi hz0 hz1 hz2 rfl (by decide) _ 0 _ rfl (hO9.out.alloc _) ⟨w9.heap.size, 0, none⟩ 1 1 [.int .i64 0, .int .i64 0, .int .i64 4, .int .i64 1] rfl rfl (news4 _ _ _ _ _ _) (by simp [Value.oneCell']) (by unfold maxLen; omega) (by omega) (by simp; omega) ?_; intro v1 w1 hown1 hgrow _ hat))
      go_roundw
      case rel =>
        obtain ⟨r1, r2, r3⟩ := sub_step HO.out hG2.out hne2.out hB hb9 hown1 hgrow hat
        exact ⟨1, by omega, rfl, hown1, r1, r2, r3⟩
      case measure => simp [intOf]
    · rw [show ((1 : Nat) : Int) = 1 from rfl]
      have kc0 := cob hG 4 rfl
      have kc1 := cob hG 5 rfl
      have kc2 := cob hG 6 rfl
      have kc3 := cob hG 7 rfl
      have ce := fun w => empty_any 0 1 1 2 w
      rw [show eR 0 1 1 2 = false by decide] at ce
      have hO2 := hO
      have hG2 := Lib.hid hG
      have hne2 := Lib.hid hne
      clear hG hne
      have HO := Lib.hid hO2
      clear hO hO2
      go_wp2_with (first | (go_at_call 19; (with_reducible refine (ce _).mono ?_); rintro e w9 ⟨rfl, hb9⟩; have q0 : w9.cell? ⟨wr.heap.size, 0, none⟩ = some (.int .i64 0) := bcs hb9 (by go_simp); have q1 : w9.cell? ⟨wr.heap.size, 1, none⟩ = some (.int .i64 1) := bcs hb9 (by go_simp); have q2 : w9.cell? ⟨wr.heap.size, 2, none⟩ = some (.int .i64 1) := bcs hb9 (by go_simp); have q3 : w9.cell? ⟨wr.heap.size, 3, none⟩ = some (.int .i64 2) := bcs hb9 (by go_simp); have hO9 := Lib.hid (own_below (HO.out.alloc _) hb9); have hs9 : w.heap.size ≤ w9.heap.size := Nat.le_trans hB.size (Nat.le_trans (by simp) hb9.size)) | (at_builtin; refine wpList_append_own_at _ rfl _ _ 25 rfl (w.heap.size) 23 i0 _ 4 32 Try.underlying25 hi hz0 hz1 hz2 rfl (by decide) _ 1 _ rfl (hO9.out.alloc _) ⟨w9.heap.size, 0, none⟩ 1 1 [.int .i64 0, .int .i64 1, .int .i64 1, .int .i64 2] rfl rfl (news4 _ _ _ _ _ _) (by simp [Value.oneCell']) (by unfold maxLen; omega) (by omega) (by simp; omega) ?_; intro v1 w1 hown1 hgrow _ hat))
      go_roundw
      case rel =>
        obtain ⟨r1, r2, r3⟩ := sub_step HO.out hG2.out hne2.out hB hb9 hown1 hgrow hat
        exact ⟨2, by omega, rfl, hown1, r1, r2, r3⟩
      case measure => simp [intOf]
    · rw [show ((2 : Nat) : Int) = 2 from rfl]
      have kc0 := cob hG 8 rfl
      have kc1 := cob hG 9 rfl
      have kc2 := cob hG 10 rfl
      have kc3 := cob hG 11 rfl
      have ce := fun w => empty_any 2 1 4 2 w
      rw [show eR 2 1 4 2 = false by decide] at ce
      have hO2 := hO
      have hG2 := Lib.hid hG
      have hne2 := Lib.hid hne
      clear hG hne
      have HO := Lib.hid hO2
      clear hO hO2
      go_wp2_with (first | (go_at_call 19; (with_reducible refine (ce _).mono ?_); rintro e w9 ⟨rfl, hb9⟩; have q0 : w9.cell? ⟨wr.heap.size, 0, none⟩ = some (.int .i64 2) := bcs hb9 (by go_simp); have q1 : w9.cell? ⟨wr.heap.size, 1, none⟩ = some (.int .i64 1) := bcs hb9 (by go_simp); have q2 : w9.cell? ⟨wr.heap.size, 2, none⟩ = some (.int .i64 4) := bcs hb9 (by go_simp); have q3 : w9.cell? ⟨wr.heap.size, 3, none⟩ = some (.int .i64 2) := bcs hb9 (by go_simp); have hO9 := Lib.hid (own_below (HO.out.alloc _) hb9); have hs9 : w.heap.size ≤ w9.heap.size := Nat.le_trans hB.size (Nat.le_trans (by simp) hb9.size)) | (at_builtin; refine wpList_append_own_at _ rfl _ _ 25 rfl (w.heap.size) 23 i0 _ 4 32 Try.underlying25 hi hz0 hz1 hz2 rfl (by decide) _ 2 _ rfl (hO9.out.alloc _) ⟨w9.heap.size, 0, none⟩ 1 1 [.int .i64 2, .int .i64 1, .int .i64 4, .int .i64 2] rfl rfl (news4 _ _ _ _ _ _) (by simp [Value.oneCell']) (by unfold maxLen; omega) (by omega) (by simp; omega) ?_; intro v1 w1 hown1 hgrow _ hat))
      go_roundw
      case rel =>
        obtain ⟨r1, r2, r3⟩ := sub_step HO.out hG2.out hne2.out hB hb9 hown1 hgrow hat
        exact ⟨3, by omega, rfl, hown1, r1, r2, r3⟩
      case measure => simp [intOf]
    · rw [show ((3 : Nat) : Int) = 3 from rfl]
      have kc0 := cob hG 12 rfl
      have kc1 := cob hG 13 rfl
      have kc2 := cob hG 14 rfl
      have kc3 := cob hG 15 rfl
      have ce := fun w => empty_any 0 2 4 4 w
      rw [show eR 0 2 4 4 = false by decide] at ce
      have hO2 := hO
      have hG2 := Lib.hid hG
      have hne2 := Lib.hid hne
      clear hG hne
      have HO := Lib.hid hO2
      clear hO hO2
      go_wp2_with (first | (go_at_call 19; (with_reducible refine (ce _).mono ?_); rintro e w9 ⟨rfl, hb9⟩; have q0 : w9.cell? ⟨wr.heap.size, 0, none⟩ = some (.int .i64 0) := bcs hb9 (by go_simp); have q1 : w9.cell? ⟨wr.heap.size, 1, none⟩ = some (.int .i64 2) := bcs hb9 (by go_simp); have q2 : w9.cell? ⟨wr.heap.size, 2, none⟩ = some (.int .i64 4) := bcs hb9 (by go_simp); have q3 : w9.cell? ⟨wr.heap.size, 3, none⟩ = some (.int .i64 4) := bcs hb9 (by go_simp); have hO9 := Lib.hid (own_below (HO.out.alloc _) hb9); have hs9 : w.heap.size ≤ w9.heap.size := Nat.le_trans hB.size (Nat.le_trans (by simp) hb9.size)) | (at_builtin; refine wpList_append_own_at _ rfl _ _ 25 rfl (w.heap.size) 23 i0 _ 4 32 Try.underlying25 hi hz0 hz1 hz2 rfl (by decide) _ 3 _ rfl (hO9.out.alloc _) ⟨w9.heap.size, 0, none⟩ 1 1 [.int .i64 0, .int .i64 2, .int .i64 4, .int .i64 4] rfl rfl (news4 _ _ _ _ _ _) (by simp [Value.oneCell']) (by unfold maxLen; omega) (by omega) (by simp; omega) ?_; intro v1 w1 hown1 hgrow _ hat))
      go_roundw
      case rel =>
        obtain ⟨r1, r2, r3⟩ := sub_step HO.out hG2.out hne2.out hB hb9 hown1 hgrow hat
        exact ⟨4, by omega, rfl, hown1, r1, r2, r3⟩
      case measure => simp [intOf]
    · rw [show ((4 : Nat) : Int) = 4 from rfl]
      have HO := Lib.hid hO
      clear hO hG hne
      go_wp2
      go_ret
      exact ⟨_, rfl, HO.out, hB⟩
end Go.Proofs.Ytciaidlkhlgflaa
