import Derived.Test.YtfaiogomhjmhhaaCu
import Derived.Test.YtfaiogomhjmhhaaC7
import Derived.WalkKit
import Derived.WalkSpells
import Derived.WalkLawsBesides
import Derived.Lib.Hide
import Derived.Below
import Derived.Deep.QuietTactic
import Derived.BigQuiet
import Derived.Deep.RegionHeld3
import Derived.Deep.DrawnRows
import Derived.Deep.DeepFit
import Derived.IntWalk
namespace Go.Proofs.Ytfaiogomhjmhhaa
open Go.RowKit
set_option linter.unusedVariables false
set_option linter.unusedSimpArgs false
attribute [local go_sem ↓] Go.wp_at_zero Go.wp_at_succ
attribute [local go_sem] rhoF_tmp rhoF_const rhoF_global rhoF_func

set_option maxRecDepth 50000 in
set_option maxHeartbeats 16000000 in
theorem colorHSL_gray (r a : Int) (r0 : 0 ≤ r) (r1 : r ≤ 255) (a0 : 0 ≤ a) (a1 : a ≤ 255) (w : World) :
    Calls Try.prog 7 #[.agg #[.int .u8 r, .int .u8 r, .int .u8 r, .int .u8 a]] w fun e w' => e = .returned (.bool true) ∧ Below w.heap.size w w' := by
  have ct := fun w => toHSL_gray r a r0 r1 w
  have cf := fun w => from_gray r a r0 r1 a0 a1 w
  have cl := fun w => lum_gray r a r0 r1 w
  go_enter Try.func7, Try.ntmps7
  go_wp2_with (first | (go_at_call 23; (with_reducible refine (ct _).mono ?_); rintro e w1 ⟨rfl, hb1⟩; have k1_b1_0 : w1.cell? ⟨w.heap.size, 0, none⟩ = some (.int .u8 r) := bcs hb1 (by go_simp); have g1_b1_0 : w1.frozen? ⟨w.heap.size, 0, none⟩ = false := bfs hb1 (v := .int .u8 r) (by go_simp) (by go_simp); have k1_b1_1 : w1.cell? ⟨w.heap.size, 1, none⟩ = some (.int .u8 r) := bcs hb1 (by go_simp); have g1_b1_1 : w1.frozen? ⟨w.heap.size, 1, none⟩ = false := bfs hb1 (v := .int .u8 r) (by go_simp) (by go_simp); have k1_b1_2 : w1.cell? ⟨w.heap.size, 2, none⟩ = some (.int .u8 r) := bcs hb1 (by go_simp); have g1_b1_2 : w1.frozen? ⟨w.heap.size, 2, none⟩ = false := bfs hb1 (v := .int .u8 r) (by go_simp) (by go_simp); have k1_b1_3 : w1.cell? ⟨w.heap.size, 3, none⟩ = some (.int .u8 a) := bcs hb1 (by go_simp); have g1_b1_3 : w1.frozen? ⟨w.heap.size, 3, none⟩ = false := bfs hb1 (v := .int .u8 a) (by go_simp) (by go_simp); have q1_b1 : w.heap.size < w1.heap.size := qlt k1_b1_0; have x1_b1 : ¬ w.heap.size = w1.heap.size := qne k1_b1_0; have y1_b1 : ¬ w1.heap.size = w.heap.size := fun h => qne k1_b1_0 h.symm; have B1 : Below w.heap.size w w1 := bel_step (by repeat (first | with_reducible exact Below.refl _ _ | fail | with_reducible apply below_drewN | with_reducible apply Below.drew | (with_reducible refine Below.alloc ?_ (by first | (simp; done) | (simp; omega) | omega) _) | (with_reducible refine Below.setCell ?_ (by first | (simp; done) | (simp; omega) | omega) _))) hb1; have z1 : w.heap.size + 1 ≤ w1.heap.size := Nat.le_trans (by first | with_reducible assumption | (simp; done) | (simp; omega)) hb1.size; clear hb1) | (go_at_call 24; (with_reducible refine (cf _).mono ?_); rintro e w2 ⟨rfl, hb2⟩; have k2_b1_0 : w2.cell? ⟨w.heap.size, 0, none⟩ = some (.int .u8 r) := bcs hb2 (by go_simp); have g2_b1_0 : w2.frozen? ⟨w.heap.size, 0, none⟩ = false := bfs hb2 (v := .int .u8 r) (by go_simp) (by go_simp); have k2_b1_1 : w2.cell? ⟨w.heap.size, 1, none⟩ = some (.int .u8 r) := bcs hb2 (by go_simp); have g2_b1_1 : w2.frozen? ⟨w.heap.size, 1, none⟩ = false := bfs hb2 (v := .int .u8 r) (by go_simp) (by go_simp); have k2_b1_2 : w2.cell? ⟨w.heap.size, 2, none⟩ = some (.int .u8 r) := bcs hb2 (by go_simp); have g2_b1_2 : w2.frozen? ⟨w.heap.size, 2, none⟩ = false := bfs hb2 (v := .int .u8 r) (by go_simp) (by go_simp); have k2_b1_3 : w2.cell? ⟨w.heap.size, 3, none⟩ = some (.int .u8 a) := bcs hb2 (by go_simp); have g2_b1_3 : w2.frozen? ⟨w.heap.size, 3, none⟩ = false := bfs hb2 (v := .int .u8 a) (by go_simp) (by go_simp); have q2_b1 : w.heap.size < w2.heap.size := qlt k2_b1_0; have x2_b1 : ¬ w.heap.size = w2.heap.size := qne k2_b1_0; have y2_b1 : ¬ w2.heap.size = w.heap.size := fun h => qne k2_b1_0 h.symm; have B2 : Below w.heap.size w w2 := bel_step (by repeat (first | with_reducible exact Below.refl _ _ | with_reducible exact B1 | with_reducible apply below_drewN | with_reducible apply Below.drew | (with_reducible refine Below.alloc ?_ (by first | (simp; done) | (simp; omega) | omega) _) | (with_reducible refine Below.setCell ?_ (by first | (simp; done) | (simp; omega) | omega) _))) hb2; have z2 : w.heap.size + 1 ≤ w2.heap.size := Nat.le_trans (by first | with_reducible assumption | (simp; done) | (simp; omega)) hb2.size; clear hb2; (try clear k1_b1_0); (try clear g1_b1_0); (try clear k1_b1_1); (try clear g1_b1_1); (try clear k1_b1_2); (try clear g1_b1_2); (try clear k1_b1_3); (try clear g1_b1_3); (try clear B1); (try clear z1); (try clear q1_b1); (try clear x1_b1); (try clear y1_b1)))
  refine wp_region_env (fun w' => w'.cell? ⟨w.heap.size, 0, none⟩ = some (.int .u8 r) ∧ w'.frozen? ⟨w.heap.size, 0, none⟩ = false ∧ w'.cell? ⟨w.heap.size, 1, none⟩ = some (.int .u8 r) ∧ w'.frozen? ⟨w.heap.size, 1, none⟩ = false ∧ w'.cell? ⟨w.heap.size, 2, none⟩ = some (.int .u8 r) ∧ w'.frozen? ⟨w.heap.size, 2, none⟩ = false ∧ w'.cell? ⟨w.heap.size, 3, none⟩ = some (.int .u8 a) ∧ w'.frozen? ⟨w.heap.size, 3, none⟩ = false ∧ w'.cell? ⟨w2.heap.size, 0, none⟩ = some (.int .u8 r) ∧ w'.frozen? ⟨w2.heap.size, 0, none⟩ = false ∧ w'.cell? ⟨w2.heap.size, 1, none⟩ = some (.int .u8 r) ∧ w'.frozen? ⟨w2.heap.size, 1, none⟩ = false ∧ w'.cell? ⟨w2.heap.size, 2, none⟩ = some (.int .u8 r) ∧ w'.frozen? ⟨w2.heap.size, 2, none⟩ = false ∧ w'.cell? ⟨w2.heap.size, 3, none⟩ = some (.int .u8 a) ∧ w'.frozen? ⟨w2.heap.size, 3, none⟩ = false) (fun W => W.cell? ⟨w.heap.size, 0, none⟩ = some (.int .u8 r) ∧ W.frozen? ⟨w.heap.size, 0, none⟩ = false ∧ W.cell? ⟨w.heap.size, 1, none⟩ = some (.int .u8 r) ∧ W.frozen? ⟨w.heap.size, 1, none⟩ = false ∧ W.cell? ⟨w.heap.size, 2, none⟩ = some (.int .u8 r) ∧ W.frozen? ⟨w.heap.size, 2, none⟩ = false ∧ W.cell? ⟨w.heap.size, 3, none⟩ = some (.int .u8 a) ∧ W.frozen? ⟨w.heap.size, 3, none⟩ = false ∧ W.cell? ⟨w2.heap.size, 0, none⟩ = some (.int .u8 r) ∧ W.frozen? ⟨w2.heap.size, 0, none⟩ = false ∧ W.cell? ⟨w2.heap.size, 1, none⟩ = some (.int .u8 r) ∧ W.frozen? ⟨w2.heap.size, 1, none⟩ = false ∧ W.cell? ⟨w2.heap.size, 2, none⟩ = some (.int .u8 r) ∧ W.frozen? ⟨w2.heap.size, 2, none⟩ = false ∧ W.cell? ⟨w2.heap.size, 3, none⟩ = some (.int .u8 a) ∧ W.frozen? ⟨w2.heap.size, 3, none⟩ = false ∧ Below w.heap.size w W ∧ w.heap.size + 1 ≤ W.heap.size) 35 70 [.val (.bool true), .val (.bool true), .val (.agg #[.int .u8 r, .int .u8 r, .int .u8 r, .int .u8 a]), .val (.agg #[.int .u8 r, .int .u8 r, .int .u8 r, .int .u8 a]), .val (.bool true), .val (.bool true), .val (.bool true), .val (.int .i64 0), .val (.bool true), .val (.bool true), .val (.bool true), .val (.int .i64 0), .val (.bool true), .val (.bool true), .val (.bool true), .val (.bool true), .val (.int .i64 0), .val (.bool true), .val (.bool true), .val (.bool true), .val (.bool true), .val (.bool true), .val (.bool false), .val (.bool false), .val (.agg #[.int .u8 r, .int .u8 r, .int .u8 r, .int .u8 a]), .call 25 #[.agg #[.int .u8 r, .int .u8 r, .int .u8 r, .int .u8 a]] (.int .u8 r), .val (.pointer (some ⟨w.heap.size, 0, none⟩)), .val (.int .u8 r), .val (.bool true), .val (.bool true), .val (.bool true), .val (.bool true), .call 14 #[] (.bool true), .val (.bool true), .val (.bool true)] (by kernel_rfl) (by kernel_rfl) rfl (by kernel_rfl) (by rintro w1 w2 ⟨h0, h1, h2, h3, h4, h5, h6, h7, h8, h9, h10, h11, h12, h13, h14, h15⟩ hb; exact ⟨bcs hb h0, bfs hb h0 h1, bcs hb h2, bfs hb h2 h3, bcs hb h4, bfs hb h4 h5, bcs hb h6, bfs hb h6 h7, bcs hb h8, bfs hb h8 h9, bcs hb h10, bfs hb h10 h11, bcs hb h12, bfs hb h12 h13, bcs hb h14, bfs hb h14 h15⟩) ⟨by first | with_reducible assumption | go_simp, by first | with_reducible assumption | go_simp, by first | with_reducible assumption | go_simp, by first | with_reducible assumption | go_simp, by first | with_reducible assumption | go_simp, by first | with_reducible assumption | go_simp, by first | with_reducible assumption | go_simp, by first | with_reducible assumption | go_simp, by first | with_reducible assumption | go_simp, by first | with_reducible assumption | go_simp, by first | with_reducible assumption | go_simp, by first | with_reducible assumption | go_simp, by first | with_reducible assumption | go_simp, by first | with_reducible assumption | go_simp, by first | with_reducible assumption | go_simp, by first | with_reducible assumption | go_simp, by repeat (first | with_reducible exact Below.refl _ _ | with_reducible exact B2 | with_reducible apply below_drewN | with_reducible apply Below.drew | (with_reducible refine Below.alloc ?_ (by first | (simp; done) | (simp; omega) | omega) _) | (with_reducible refine Below.setCell ?_ (by first | (simp; done) | (simp; omega) | omega) _)), by first | with_reducible assumption | (simp; done) | (simp; omega)⟩ ?_ ?_
  · rintro W ⟨k3_b1_0, g3_b1_0, k3_b1_1, g3_b1_1, k3_b1_2, g3_b1_2, k3_b1_3, g3_b1_3, k3_g6_0, g3_g6_0, k3_g6_1, g3_g6_1, k3_g6_2, g3_g6_2, k3_g6_3, g3_g6_3, B3, z3⟩; exact ⟨k3_b1_0, g3_b1_0, k3_b1_1, g3_b1_1, k3_b1_2, g3_b1_2, k3_b1_3, g3_b1_3, k3_g6_0, g3_g6_0, k3_g6_1, g3_g6_1, k3_g6_2, g3_g6_2, k3_g6_3, g3_g6_3⟩
  (try clear B2)
  (try clear z2)
  (try clear k2_b1_0)
  (try clear g2_b1_0)
  (try clear k2_b1_1)
  (try clear g2_b1_1)
  (try clear k2_b1_2)
  (try clear g2_b1_2)
  (try clear k2_b1_3)
  (try clear g2_b1_3)
  (try clear k2_g6_0)
  (try clear g2_g6_0)
  (try clear k2_g6_1)
  (try clear g2_g6_1)
  (try clear k2_g6_2)
  (try clear g2_g6_2)
  (try clear k2_g6_3)
  (try clear g2_g6_3)
  (try clear q2_b1)
  (try clear x2_b1)
  (try clear y2_b1)
  (try clear q2_g6)
  (try clear x2_g6)
  (try clear y2_g6)
  rintro w3 ⟨k3_b1_0, g3_b1_0, k3_b1_1, g3_b1_1, k3_b1_2, g3_b1_2, k3_b1_3, g3_b1_3, k3_g6_0, g3_g6_0, k3_g6_1, g3_g6_1, k3_g6_2, g3_g6_2, k3_g6_3, g3_g6_3, B3, z3⟩ gg
  simp only [List.take_succ_cons, List.take_zero, List.drop_succ_cons, List.drop_zero, List.cons_append, List.nil_append, List.append_nil]
  refine obe_val (by rfl) ?_ ?_
  · clear k3_b1_0 g3_b1_0 k3_b1_1 g3_b1_1 k3_b1_2 g3_b1_2 k3_b1_3 g3_b1_3 k3_g6_0 g3_g6_0 k3_g6_1 g3_g6_1 k3_g6_2 g3_g6_2 k3_g6_3 g3_g6_3 B3 z3; intro f hf; have u7 : f 7 = (.bool true) := (by rw [← hf]; rfl); clear hf; rintro w' ⟨h0, h1, h2, h3, h4, h5, h6, h7, h8, h9, h10, h11, h12, h13, h14, h15⟩; go_simp; try exact IntWalk.i64_in _ (by omega)
  refine obe_val (by rfl) ?_ ?_
  · clear k3_b1_0 g3_b1_0 k3_b1_1 g3_b1_1 k3_b1_2 g3_b1_2 k3_b1_3 g3_b1_3 k3_g6_0 g3_g6_0 k3_g6_1 g3_g6_1 k3_g6_2 g3_g6_2 k3_g6_3 g3_g6_3 B3 z3; intro f hf; have u36 : f 36 = (.bool true) := (by rw [← hf]; rfl); clear hf; rintro w' ⟨h0, h1, h2, h3, h4, h5, h6, h7, h8, h9, h10, h11, h12, h13, h14, h15⟩; go_simp; try exact IntWalk.i64_in _ (by omega)
  refine obe_val (by rfl) ?_ ?_
  · clear k3_b1_0 g3_b1_0 k3_b1_1 g3_b1_1 k3_b1_2 g3_b1_2 k3_b1_3 g3_b1_3 k3_g6_0 g3_g6_0 k3_g6_1 g3_g6_1 k3_g6_2 g3_g6_2 k3_g6_3 g3_g6_3 B3 z3; intro f hf; have u6 : f 6 = (.pointer (some ⟨w2.heap.size, 0, none⟩)) := (by rw [← hf]; rfl); clear hf; rintro w' ⟨h0, h1, h2, h3, h4, h5, h6, h7, h8, h9, h10, h11, h12, h13, h14, h15⟩; go_simp; try exact IntWalk.i64_in _ (by omega)
  refine obe_val (by rfl) ?_ ?_
  · clear k3_b1_0 g3_b1_0 k3_b1_1 g3_b1_1 k3_b1_2 g3_b1_2 k3_b1_3 g3_b1_3 k3_g6_0 g3_g6_0 k3_g6_1 g3_g6_1 k3_g6_2 g3_g6_2 k3_g6_3 g3_g6_3 B3 z3; intro f hf; have u1 : f 1 = (.pointer (some ⟨w.heap.size, 0, none⟩)) := (by rw [← hf]; rfl); clear hf; rintro w' ⟨h0, h1, h2, h3, h4, h5, h6, h7, h8, h9, h10, h11, h12, h13, h14, h15⟩; go_simp; try exact IntWalk.i64_in _ (by omega)
  refine obe_val (by rfl) ?_ ?_
  · clear k3_b1_0 g3_b1_0 k3_b1_1 g3_b1_1 k3_b1_2 g3_b1_2 k3_b1_3 g3_b1_3 k3_g6_0 g3_g6_0 k3_g6_1 g3_g6_1 k3_g6_2 g3_g6_2 k3_g6_3 g3_g6_3 B3 z3; intro f hf; have u38 : f 38 = (.agg #[.int .u8 r, .int .u8 r, .int .u8 r, .int .u8 a]) := (by rw [← hf]; rfl); have u39 : f 39 = (.agg #[.int .u8 r, .int .u8 r, .int .u8 r, .int .u8 a]) := (by rw [← hf]; rfl); clear hf; rintro w' ⟨h0, h1, h2, h3, h4, h5, h6, h7, h8, h9, h10, h11, h12, h13, h14, h15⟩; go_simp; try exact IntWalk.i64_in _ (by omega)
  refine obe_val (by rfl) ?_ ?_
  · clear k3_b1_0 g3_b1_0 k3_b1_1 g3_b1_1 k3_b1_2 g3_b1_2 k3_b1_3 g3_b1_3 k3_g6_0 g3_g6_0 k3_g6_1 g3_g6_1 k3_g6_2 g3_g6_2 k3_g6_3 g3_g6_3 B3 z3; intro f hf; have u37 : f 37 = (.bool true) := (by rw [← hf]; rfl); have u40 : f 40 = (.bool true) := (by rw [← hf]; rfl); clear hf; rintro w' ⟨h0, h1, h2, h3, h4, h5, h6, h7, h8, h9, h10, h11, h12, h13, h14, h15⟩; go_simp; try exact IntWalk.i64_in _ (by omega)
  refine obe_val (by rfl) ?_ ?_
  · clear k3_b1_0 g3_b1_0 k3_b1_1 g3_b1_1 k3_b1_2 g3_b1_2 k3_b1_3 g3_b1_3 k3_g6_0 g3_g6_0 k3_g6_1 g3_g6_1 k3_g6_2 g3_g6_2 k3_g6_3 g3_g6_3 B3 z3; intro f hf; have u41 : f 41 = (.bool true) := (by rw [← hf]; rfl); clear hf; rintro w' ⟨h0, h1, h2, h3, h4, h5, h6, h7, h8, h9, h10, h11, h12, h13, h14, h15⟩; go_simp; try exact IntWalk.i64_in _ (by omega)
  refine obe_val (by rfl) ?_ ?_
  · clear k3_b1_0 g3_b1_0 k3_b1_1 g3_b1_1 k3_b1_2 g3_b1_2 k3_b1_3 g3_b1_3 k3_g6_0 g3_g6_0 k3_g6_1 g3_g6_1 k3_g6_2 g3_g6_2 k3_g6_3 g3_g6_3 B3 z3; intro f hf; have u3 : f 3 = (.int .i64 0) := (by rw [← hf]; rfl); clear hf; rintro w' ⟨h0, h1, h2, h3, h4, h5, h6, h7, h8, h9, h10, h11, h12, h13, h14, h15⟩; go_simp; try exact IntWalk.i64_in _ (by omega)
  refine obe_val (by rfl) ?_ ?_
  · clear k3_b1_0 g3_b1_0 k3_b1_1 g3_b1_1 k3_b1_2 g3_b1_2 k3_b1_3 g3_b1_3 k3_g6_0 g3_g6_0 k3_g6_1 g3_g6_1 k3_g6_2 g3_g6_2 k3_g6_3 g3_g6_3 B3 z3; intro f hf; have u43 : f 43 = (.int .i64 0) := (by rw [← hf]; rfl); clear hf; rintro w' ⟨h0, h1, h2, h3, h4, h5, h6, h7, h8, h9, h10, h11, h12, h13, h14, h15⟩; go_simp; try exact IntWalk.i64_in _ (by omega)
  refine obe_val (by rfl) ?_ ?_
  · clear k3_b1_0 g3_b1_0 k3_b1_1 g3_b1_1 k3_b1_2 g3_b1_2 k3_b1_3 g3_b1_3 k3_g6_0 g3_g6_0 k3_g6_1 g3_g6_1 k3_g6_2 g3_g6_2 k3_g6_3 g3_g6_3 B3 z3; intro f hf; have u42 : f 42 = (.bool true) := (by rw [← hf]; rfl); have u44 : f 44 = (.bool true) := (by rw [← hf]; rfl); clear hf; rintro w' ⟨h0, h1, h2, h3, h4, h5, h6, h7, h8, h9, h10, h11, h12, h13, h14, h15⟩; go_simp; try exact IntWalk.i64_in _ (by omega)
  refine obe_val (by rfl) ?_ ?_
  · clear k3_b1_0 g3_b1_0 k3_b1_1 g3_b1_1 k3_b1_2 g3_b1_2 k3_b1_3 g3_b1_3 k3_g6_0 g3_g6_0 k3_g6_1 g3_g6_1 k3_g6_2 g3_g6_2 k3_g6_3 g3_g6_3 B3 z3; intro f hf; have u45 : f 45 = (.bool true) := (by rw [← hf]; rfl); clear hf; rintro w' ⟨h0, h1, h2, h3, h4, h5, h6, h7, h8, h9, h10, h11, h12, h13, h14, h15⟩; go_simp; try exact IntWalk.i64_in _ (by omega)
  refine obe_val (by rfl) ?_ ?_
  · clear k3_b1_0 g3_b1_0 k3_b1_1 g3_b1_1 k3_b1_2 g3_b1_2 k3_b1_3 g3_b1_3 k3_g6_0 g3_g6_0 k3_g6_1 g3_g6_1 k3_g6_2 g3_g6_2 k3_g6_3 g3_g6_3 B3 z3; intro f hf; have u3 : f 3 = (.int .i64 0) := (by rw [← hf]; rfl); clear hf; rintro w' ⟨h0, h1, h2, h3, h4, h5, h6, h7, h8, h9, h10, h11, h12, h13, h14, h15⟩; go_simp; try exact IntWalk.i64_in _ (by omega)
  refine obe_val (by rfl) ?_ ?_
  · clear k3_b1_0 g3_b1_0 k3_b1_1 g3_b1_1 k3_b1_2 g3_b1_2 k3_b1_3 g3_b1_3 k3_g6_0 g3_g6_0 k3_g6_1 g3_g6_1 k3_g6_2 g3_g6_2 k3_g6_3 g3_g6_3 B3 z3; intro f hf; have u47 : f 47 = (.int .i64 0) := (by rw [← hf]; rfl); clear hf; rintro w' ⟨h0, h1, h2, h3, h4, h5, h6, h7, h8, h9, h10, h11, h12, h13, h14, h15⟩; go_simp; try exact IntWalk.i64_in _ (by omega)
  refine obe_val (by rfl) ?_ ?_
  · clear k3_b1_0 g3_b1_0 k3_b1_1 g3_b1_1 k3_b1_2 g3_b1_2 k3_b1_3 g3_b1_3 k3_g6_0 g3_g6_0 k3_g6_1 g3_g6_1 k3_g6_2 g3_g6_2 k3_g6_3 g3_g6_3 B3 z3; intro f hf; have u46 : f 46 = (.bool true) := (by rw [← hf]; rfl); have u48 : f 48 = (.bool true) := (by rw [← hf]; rfl); clear hf; rintro w' ⟨h0, h1, h2, h3, h4, h5, h6, h7, h8, h9, h10, h11, h12, h13, h14, h15⟩; go_simp; try exact IntWalk.i64_in _ (by omega)
  refine obe_val (by rfl) ?_ ?_
  · clear k3_b1_0 g3_b1_0 k3_b1_1 g3_b1_1 k3_b1_2 g3_b1_2 k3_b1_3 g3_b1_3 k3_g6_0 g3_g6_0 k3_g6_1 g3_g6_1 k3_g6_2 g3_g6_2 k3_g6_3 g3_g6_3 B3 z3; intro f hf; have u49 : f 49 = (.bool true) := (by rw [← hf]; rfl); clear hf; rintro w' ⟨h0, h1, h2, h3, h4, h5, h6, h7, h8, h9, h10, h11, h12, h13, h14, h15⟩; go_simp; try exact IntWalk.i64_in _ (by omega)
  refine obe_val (by rfl) ?_ ?_
  · clear k3_b1_0 g3_b1_0 k3_b1_1 g3_b1_1 k3_b1_2 g3_b1_2 k3_b1_3 g3_b1_3 k3_g6_0 g3_g6_0 k3_g6_1 g3_g6_1 k3_g6_2 g3_g6_2 k3_g6_3 g3_g6_3 B3 z3; intro f hf; have u8 : f 8 = (.bool true) := (by rw [← hf]; rfl); clear hf; rintro w' ⟨h0, h1, h2, h3, h4, h5, h6, h7, h8, h9, h10, h11, h12, h13, h14, h15⟩; go_simp; try exact IntWalk.i64_in _ (by omega)
  refine obe_val (by rfl) ?_ ?_
  · clear k3_b1_0 g3_b1_0 k3_b1_1 g3_b1_1 k3_b1_2 g3_b1_2 k3_b1_3 g3_b1_3 k3_g6_0 g3_g6_0 k3_g6_1 g3_g6_1 k3_g6_2 g3_g6_2 k3_g6_3 g3_g6_3 B3 z3; intro f hf; have u4 : f 4 = (.int .i64 0) := (by rw [← hf]; rfl); clear hf; rintro w' ⟨h0, h1, h2, h3, h4, h5, h6, h7, h8, h9, h10, h11, h12, h13, h14, h15⟩; go_simp; try exact IntWalk.i64_in _ (by omega)
  refine obe_val (by rfl) ?_ ?_
  · clear k3_b1_0 g3_b1_0 k3_b1_1 g3_b1_1 k3_b1_2 g3_b1_2 k3_b1_3 g3_b1_3 k3_g6_0 g3_g6_0 k3_g6_1 g3_g6_1 k3_g6_2 g3_g6_2 k3_g6_3 g3_g6_3 B3 z3; intro f hf; have u52 : f 52 = (.int .i64 0) := (by rw [← hf]; rfl); clear hf; rintro w' ⟨h0, h1, h2, h3, h4, h5, h6, h7, h8, h9, h10, h11, h12, h13, h14, h15⟩; go_simp; try exact IntWalk.i64_in _ (by omega)
  refine obe_val (by rfl) ?_ ?_
  · clear k3_b1_0 g3_b1_0 k3_b1_1 g3_b1_1 k3_b1_2 g3_b1_2 k3_b1_3 g3_b1_3 k3_g6_0 g3_g6_0 k3_g6_1 g3_g6_1 k3_g6_2 g3_g6_2 k3_g6_3 g3_g6_3 B3 z3; intro f hf; have u51 : f 51 = (.bool true) := (by rw [← hf]; rfl); have u53 : f 53 = (.bool true) := (by rw [← hf]; rfl); clear hf; rintro w' ⟨h0, h1, h2, h3, h4, h5, h6, h7, h8, h9, h10, h11, h12, h13, h14, h15⟩; go_simp; try exact IntWalk.i64_in _ (by omega)
  refine obe_val (by rfl) ?_ ?_
  · clear k3_b1_0 g3_b1_0 k3_b1_1 g3_b1_1 k3_b1_2 g3_b1_2 k3_b1_3 g3_b1_3 k3_g6_0 g3_g6_0 k3_g6_1 g3_g6_1 k3_g6_2 g3_g6_2 k3_g6_3 g3_g6_3 B3 z3; intro f hf; have u50 : f 50 = (.bool true) := (by rw [← hf]; rfl); have u54 : f 54 = (.bool true) := (by rw [← hf]; rfl); clear hf; rintro w' ⟨h0, h1, h2, h3, h4, h5, h6, h7, h8, h9, h10, h11, h12, h13, h14, h15⟩; go_simp; try exact IntWalk.i64_in _ (by omega)
  refine obe_val (by rfl) ?_ ?_
  · clear k3_b1_0 g3_b1_0 k3_b1_1 g3_b1_1 k3_b1_2 g3_b1_2 k3_b1_3 g3_b1_3 k3_g6_0 g3_g6_0 k3_g6_1 g3_g6_1 k3_g6_2 g3_g6_2 k3_g6_3 g3_g6_3 B3 z3; intro f hf; have u55 : f 55 = (.bool true) := (by rw [← hf]; rfl); clear hf; rintro w' ⟨h0, h1, h2, h3, h4, h5, h6, h7, h8, h9, h10, h11, h12, h13, h14, h15⟩; go_simp; try exact IntWalk.i64_in _ (by omega)
  refine obe_val (by rfl) ?_ ?_
  · clear k3_b1_0 g3_b1_0 k3_b1_1 g3_b1_1 k3_b1_2 g3_b1_2 k3_b1_3 g3_b1_3 k3_g6_0 g3_g6_0 k3_g6_1 g3_g6_1 k3_g6_2 g3_g6_2 k3_g6_3 g3_g6_3 B3 z3; intro f hf; have u8 : f 8 = (.bool true) := (by rw [← hf]; rfl); clear hf; rintro w' ⟨h0, h1, h2, h3, h4, h5, h6, h7, h8, h9, h10, h11, h12, h13, h14, h15⟩; go_simp; try exact IntWalk.i64_in _ (by omega)
  refine obe_val (by rfl) ?_ ?_
  · clear k3_b1_0 g3_b1_0 k3_b1_1 g3_b1_1 k3_b1_2 g3_b1_2 k3_b1_3 g3_b1_3 k3_g6_0 g3_g6_0 k3_g6_1 g3_g6_1 k3_g6_2 g3_g6_2 k3_g6_3 g3_g6_3 B3 z3; intro f hf; have u57 : f 57 = (.bool true) := (by rw [← hf]; rfl); clear hf; rintro w' ⟨h0, h1, h2, h3, h4, h5, h6, h7, h8, h9, h10, h11, h12, h13, h14, h15⟩; go_simp; try exact IntWalk.i64_in _ (by omega)
  refine obe_val (by rfl) ?_ ?_
  · clear k3_b1_0 g3_b1_0 k3_b1_1 g3_b1_1 k3_b1_2 g3_b1_2 k3_b1_3 g3_b1_3 k3_g6_0 g3_g6_0 k3_g6_1 g3_g6_1 k3_g6_2 g3_g6_2 k3_g6_3 g3_g6_3 B3 z3; intro f hf; have u58 : f 58 = (.bool false) := (by rw [← hf]; rfl); clear hf; rintro w' ⟨h0, h1, h2, h3, h4, h5, h6, h7, h8, h9, h10, h11, h12, h13, h14, h15⟩; go_simp; try exact IntWalk.i64_in _ (by omega)
  refine obe_val (by rfl) ?_ ?_
  · clear k3_b1_0 g3_b1_0 k3_b1_1 g3_b1_1 k3_b1_2 g3_b1_2 k3_b1_3 g3_b1_3 k3_g6_0 g3_g6_0 k3_g6_1 g3_g6_1 k3_g6_2 g3_g6_2 k3_g6_3 g3_g6_3 B3 z3; intro f hf; have u1 : f 1 = (.pointer (some ⟨w.heap.size, 0, none⟩)) := (by rw [← hf]; rfl); clear hf; rintro w' ⟨h0, h1, h2, h3, h4, h5, h6, h7, h8, h9, h10, h11, h12, h13, h14, h15⟩; go_simp; try exact IntWalk.i64_in _ (by omega)
  refine obe_call (by rfl) ?_ ?_ ?_
  · clear k3_b1_0 g3_b1_0 k3_b1_1 g3_b1_1 k3_b1_2 g3_b1_2 k3_b1_3 g3_b1_3 k3_g6_0 g3_g6_0 k3_g6_1 g3_g6_1 k3_g6_2 g3_g6_2 k3_g6_3 g3_g6_3 B3 z3; intro f hf; have u60 : f 60 = (.agg #[.int .u8 r, .int .u8 r, .int .u8 r, .int .u8 a]) := (by rw [← hf]; rfl); clear hf; intro w' _; simp only [execOp, resolve, invoke, rhoF_tmp, rhoF_func, rhoF_const, u60, List.map_toArray, List.map_cons, List.map_nil]; go_simp
  · clear k3_b1_0 g3_b1_0 k3_b1_1 g3_b1_1 k3_b1_2 g3_b1_2 k3_b1_3 g3_b1_3 k3_g6_0 g3_g6_0 k3_g6_1 g3_g6_1 k3_g6_2 g3_g6_2 k3_g6_3 g3_g6_3 B3 z3; rintro w' ⟨h0, h1, h2, h3, h4, h5, h6, h7, h8, h9, h10, h11, h12, h13, h14, h15⟩; exact cl _
  refine obe_val (by rfl) ?_ ?_
  · clear k3_b1_0 g3_b1_0 k3_b1_1 g3_b1_1 k3_b1_2 g3_b1_2 k3_b1_3 g3_b1_3 k3_g6_0 g3_g6_0 k3_g6_1 g3_g6_1 k3_g6_2 g3_g6_2 k3_g6_3 g3_g6_3 B3 z3; intro f hf; have u1 : f 1 = (.pointer (some ⟨w.heap.size, 0, none⟩)) := (by rw [← hf]; rfl); clear hf; rintro w' ⟨h0, h1, h2, h3, h4, h5, h6, h7, h8, h9, h10, h11, h12, h13, h14, h15⟩; go_simp; try exact IntWalk.i64_in _ (by omega)
  refine obe_val (by rfl) ?_ ?_
  · clear k3_b1_0 g3_b1_0 k3_b1_1 g3_b1_1 k3_b1_2 g3_b1_2 k3_b1_3 g3_b1_3 k3_g6_0 g3_g6_0 k3_g6_1 g3_g6_1 k3_g6_2 g3_g6_2 k3_g6_3 g3_g6_3 B3 z3; intro f hf; have u62 : f 62 = (.pointer (some ⟨w.heap.size, 0, none⟩)) := (by rw [← hf]; rfl); clear hf; rintro w' ⟨h0, h1, h2, h3, h4, h5, h6, h7, h8, h9, h10, h11, h12, h13, h14, h15⟩; go_simp; try exact IntWalk.i64_in _ (by omega)
  refine obe_val (by rfl) ?_ ?_
  · clear k3_b1_0 g3_b1_0 k3_b1_1 g3_b1_1 k3_b1_2 g3_b1_2 k3_b1_3 g3_b1_3 k3_g6_0 g3_g6_0 k3_g6_1 g3_g6_1 k3_g6_2 g3_g6_2 k3_g6_3 g3_g6_3 B3 z3; intro f hf; have u61 : f 61 = (.int .u8 r) := (by rw [← hf]; rfl); have u63 : f 63 = (.int .u8 r) := (by rw [← hf]; rfl); clear hf; rintro w' ⟨h0, h1, h2, h3, h4, h5, h6, h7, h8, h9, h10, h11, h12, h13, h14, h15⟩; go_simp; try exact IntWalk.i64_in _ (by omega)
  refine obe_val (by rfl) ?_ ?_
  · clear k3_b1_0 g3_b1_0 k3_b1_1 g3_b1_1 k3_b1_2 g3_b1_2 k3_b1_3 g3_b1_3 k3_g6_0 g3_g6_0 k3_g6_1 g3_g6_1 k3_g6_2 g3_g6_2 k3_g6_3 g3_g6_3 B3 z3; intro f hf; have u59 : f 59 = (.bool false) := (by rw [← hf]; rfl); have u64 : f 64 = (.bool true) := (by rw [← hf]; rfl); clear hf; rintro w' ⟨h0, h1, h2, h3, h4, h5, h6, h7, h8, h9, h10, h11, h12, h13, h14, h15⟩; go_simp; try exact IntWalk.i64_in _ (by omega)
  refine obe_val (by rfl) ?_ ?_
  · clear k3_b1_0 g3_b1_0 k3_b1_1 g3_b1_1 k3_b1_2 g3_b1_2 k3_b1_3 g3_b1_3 k3_g6_0 g3_g6_0 k3_g6_1 g3_g6_1 k3_g6_2 g3_g6_2 k3_g6_3 g3_g6_3 B3 z3; intro f hf; have u56 : f 56 = (.bool true) := (by rw [← hf]; rfl); have u65 : f 65 = (.bool true) := (by rw [← hf]; rfl); clear hf; rintro w' ⟨h0, h1, h2, h3, h4, h5, h6, h7, h8, h9, h10, h11, h12, h13, h14, h15⟩; go_simp; try exact IntWalk.i64_in _ (by omega)
  refine obe_val (by rfl) ?_ ?_
  · clear k3_b1_0 g3_b1_0 k3_b1_1 g3_b1_1 k3_b1_2 g3_b1_2 k3_b1_3 g3_b1_3 k3_g6_0 g3_g6_0 k3_g6_1 g3_g6_1 k3_g6_2 g3_g6_2 k3_g6_3 g3_g6_3 B3 z3; intro f hf; have u66 : f 66 = (.bool true) := (by rw [← hf]; rfl); clear hf; rintro w' ⟨h0, h1, h2, h3, h4, h5, h6, h7, h8, h9, h10, h11, h12, h13, h14, h15⟩; go_simp; try exact IntWalk.i64_in _ (by omega)
  refine obe_call (by rfl) ?_ ?_ ?_
  · clear k3_b1_0 g3_b1_0 k3_b1_1 g3_b1_1 k3_b1_2 g3_b1_2 k3_b1_3 g3_b1_3 k3_g6_0 g3_g6_0 k3_g6_1 g3_g6_1 k3_g6_2 g3_g6_2 k3_g6_3 g3_g6_3 B3 z3; intro f hf; clear hf; intro w' _; simp only [execOp, resolve, invoke, rhoF_tmp, rhoF_func, rhoF_const, List.map_toArray, List.map_cons, List.map_nil]; go_simp
  · clear k3_b1_0 g3_b1_0 k3_b1_1 g3_b1_1 k3_b1_2 g3_b1_2 k3_b1_3 g3_b1_3 k3_g6_0 g3_g6_0 k3_g6_1 g3_g6_1 k3_g6_2 g3_g6_2 k3_g6_3 g3_g6_3 B3 z3; rintro w' ⟨h0, h1, h2, h3, h4, h5, h6, h7, h8, h9, h10, h11, h12, h13, h14, h15⟩; exact cex_any _
  refine obe_val (by rfl) ?_ ?_
  · clear k3_b1_0 g3_b1_0 k3_b1_1 g3_b1_1 k3_b1_2 g3_b1_2 k3_b1_3 g3_b1_3 k3_g6_0 g3_g6_0 k3_g6_1 g3_g6_1 k3_g6_2 g3_g6_2 k3_g6_3 g3_g6_3 B3 z3; intro f hf; have u67 : f 67 = (.bool true) := (by rw [← hf]; rfl); have u68 : f 68 = (.bool true) := (by rw [← hf]; rfl); clear hf; rintro w' ⟨h0, h1, h2, h3, h4, h5, h6, h7, h8, h9, h10, h11, h12, h13, h14, h15⟩; go_simp; try exact IntWalk.i64_in _ (by omega)
  refine obe_val (by rfl) ?_ ?_
  · clear k3_b1_0 g3_b1_0 k3_b1_1 g3_b1_1 k3_b1_2 g3_b1_2 k3_b1_3 g3_b1_3 k3_g6_0 g3_g6_0 k3_g6_1 g3_g6_1 k3_g6_2 g3_g6_2 k3_g6_3 g3_g6_3 B3 z3; intro f hf; have u69 : f 69 = (.bool true) := (by rw [← hf]; rfl); clear hf; rintro w' ⟨h0, h1, h2, h3, h4, h5, h6, h7, h8, h9, h10, h11, h12, h13, h14, h15⟩; go_simp; try exact IntWalk.i64_in _ (by omega)
  refine obe_nil ?_
  rintro w4 ⟨h0, h1, h2, h3, h4, h5, h6, h7, h8, h9, h10, h11, h12, h13, h14, h15⟩ hb4 hF
  (try simp only [List.nil_append, List.append_nil, List.cons_append] at hF)
  simp only [puts, putD, Act.put, List.setIfInBounds_toArray, List.set_cons_zero, List.set_cons_succ]
  clear hF
  have k4_b1_0 := bcs hb4 k3_b1_0
  have g4_b1_0 := bfs hb4 k3_b1_0 g3_b1_0
  have k4_b1_1 := bcs hb4 k3_b1_1
  have g4_b1_1 := bfs hb4 k3_b1_1 g3_b1_1
  have k4_b1_2 := bcs hb4 k3_b1_2
  have g4_b1_2 := bfs hb4 k3_b1_2 g3_b1_2
  have k4_b1_3 := bcs hb4 k3_b1_3
  have g4_b1_3 := bfs hb4 k3_b1_3 g3_b1_3
  have k4_g6_0 := bcs hb4 k3_g6_0
  have g4_g6_0 := bfs hb4 k3_g6_0 g3_g6_0
  have k4_g6_1 := bcs hb4 k3_g6_1
  have g4_g6_1 := bfs hb4 k3_g6_1 g3_g6_1
  have k4_g6_2 := bcs hb4 k3_g6_2
  have g4_g6_2 := bfs hb4 k3_g6_2 g3_g6_2
  have k4_g6_3 := bcs hb4 k3_g6_3
  have g4_g6_3 := bfs hb4 k3_g6_3 g3_g6_3
  clear h0 h1 h2 h3 h4 h5 h6 h7 h8 h9 h10 h11 h12 h13 h14 h15
  have B4 := bel_step B3 hb4
  have z4 := Nat.le_trans z3 hb4.size
  clear hb4
  (try clear B3)
  (try clear z3)
  (try clear k3_b1_0)
  (try clear g3_b1_0)
  (try clear k3_b1_1)
  (try clear g3_b1_1)
  (try clear k3_b1_2)
  (try clear g3_b1_2)
  (try clear k3_b1_3)
  (try clear g3_b1_3)
  (try clear k3_g6_0)
  (try clear g3_g6_0)
  (try clear k3_g6_1)
  (try clear g3_g6_1)
  (try clear k3_g6_2)
  (try clear g3_g6_2)
  (try clear k3_g6_3)
  (try clear g3_g6_3)
  (try clear q3_b1)
  (try clear x3_b1)
  (try clear y3_b1)
  (try clear q3_g6)
  (try clear x3_g6)
  (try clear y3_g6)
  have q4_b1 : w.heap.size < w4.heap.size := qlt k4_b1_0
  have x4_b1 : ¬ w.heap.size = w4.heap.size := qne k4_b1_0
  have y4_b1 : ¬ w4.heap.size = w.heap.size := fun h => qne k4_b1_0 h.symm
  have q4_g6 : w2.heap.size < w4.heap.size := qlt k4_g6_0
  have x4_g6 : ¬ w2.heap.size = w4.heap.size := qne k4_g6_0
  have y4_g6 : ¬ w4.heap.size = w2.heap.size := fun h => qne k4_g6_0 h.symm
  unfold wpList
  go_wp2
  go_ret
  refine ⟨rfl, ?_⟩
  repeat (first | with_reducible exact Below.refl _ _ | with_reducible exact B4 | with_reducible apply below_drewN | with_reducible apply Below.drew | (with_reducible refine Below.alloc ?_ (by first | (simp; done) | (simp; omega) | omega) _) | (with_reducible refine Below.setCell ?_ (by first | (simp; done) | (simp; omega) | omega) _))

set_option maxRecDepth 50000 in
set_option maxHeartbeats 16000000 in
theorem colorHSL_rg (r g b a : Int) (r0 : 0 ≤ r) (r1 : r ≤ 255) (g0 : 0 ≤ g) (g1 : g ≤ 255) (b0 : 0 ≤ b) (b1 : b ≤ 255) (a0 : 0 ≤ a) (a1 : a ≤ 255) (n1 : ¬ r = g) (w : World) :
    Calls Try.prog 7 #[.agg #[.int .u8 r, .int .u8 g, .int .u8 b, .int .u8 a]] w fun e w' => e = .returned (.bool true) ∧ Below w.heap.size w w' := by
  have n2 : (r == g) = false := by rw [beq_eq_false_iff_ne]; omega
  obtain ⟨H, s, l, ct, cf, H0, H1, s1⟩ := hsl_back r g b a r0 r1 g0 g1 b0 b1 a0 a1 (by omega)
  have t1 : (s == 0) = false := by rw [beq_eq_false_iff_ne]; omega
  have t2 : decide (0 ≤ H) = true := by rw [decide_eq_true_iff]; omega
  have t3 : decide (H < 1536) = true := by rw [decide_eq_true_iff]; omega
  go_enter Try.func7, Try.ntmps7
  go_wp2_with (first | (go_at_call 23; (with_reducible refine (ct _).mono ?_); rintro e w1 ⟨rfl, hb1⟩; have k1_b1_0 : w1.cell? ⟨w.heap.size, 0, none⟩ = some (.int .u8 r) := bcs hb1 (by go_simp); have g1_b1_0 : w1.frozen? ⟨w.heap.size, 0, none⟩ = false := bfs hb1 (v := .int .u8 r) (by go_simp) (by go_simp); have k1_b1_1 : w1.cell? ⟨w.heap.size, 1, none⟩ = some (.int .u8 g) := bcs hb1 (by go_simp); have g1_b1_1 : w1.frozen? ⟨w.heap.size, 1, none⟩ = false := bfs hb1 (v := .int .u8 g) (by go_simp) (by go_simp); have k1_b1_2 : w1.cell? ⟨w.heap.size, 2, none⟩ = some (.int .u8 b) := bcs hb1 (by go_simp); have g1_b1_2 : w1.frozen? ⟨w.heap.size, 2, none⟩ = false := bfs hb1 (v := .int .u8 b) (by go_simp) (by go_simp); have k1_b1_3 : w1.cell? ⟨w.heap.size, 3, none⟩ = some (.int .u8 a) := bcs hb1 (by go_simp); have g1_b1_3 : w1.frozen? ⟨w.heap.size, 3, none⟩ = false := bfs hb1 (v := .int .u8 a) (by go_simp) (by go_simp); have q1_b1 : w.heap.size < w1.heap.size := qlt k1_b1_0; have x1_b1 : ¬ w.heap.size = w1.heap.size := qne k1_b1_0; have y1_b1 : ¬ w1.heap.size = w.heap.size := fun h => qne k1_b1_0 h.symm; have B1 : Below w.heap.size w w1 := bel_step (by repeat (first | with_reducible exact Below.refl _ _ | fail | with_reducible apply below_drewN | with_reducible apply Below.drew | (with_reducible refine Below.alloc ?_ (by first | (simp; done) | (simp; omega) | omega) _) | (with_reducible refine Below.setCell ?_ (by first | (simp; done) | (simp; omega) | omega) _))) hb1; have z1 : w.heap.size + 1 ≤ w1.heap.size := Nat.le_trans (by first | with_reducible assumption | (simp; done) | (simp; omega)) hb1.size; clear hb1) | (go_at_call 24; (with_reducible refine (cf _).mono ?_); rintro e w2 ⟨rfl, hb2⟩; have k2_b1_0 : w2.cell? ⟨w.heap.size, 0, none⟩ = some (.int .u8 r) := bcs hb2 (by go_simp); have g2_b1_0 : w2.frozen? ⟨w.heap.size, 0, none⟩ = false := bfs hb2 (v := .int .u8 r) (by go_simp) (by go_simp); have k2_b1_1 : w2.cell? ⟨w.heap.size, 1, none⟩ = some (.int .u8 g) := bcs hb2 (by go_simp); have g2_b1_1 : w2.frozen? ⟨w.heap.size, 1, none⟩ = false := bfs hb2 (v := .int .u8 g) (by go_simp) (by go_simp); have k2_b1_2 : w2.cell? ⟨w.heap.size, 2, none⟩ = some (.int .u8 b) := bcs hb2 (by go_simp); have g2_b1_2 : w2.frozen? ⟨w.heap.size, 2, none⟩ = false := bfs hb2 (v := .int .u8 b) (by go_simp) (by go_simp); have k2_b1_3 : w2.cell? ⟨w.heap.size, 3, none⟩ = some (.int .u8 a) := bcs hb2 (by go_simp); have g2_b1_3 : w2.frozen? ⟨w.heap.size, 3, none⟩ = false := bfs hb2 (v := .int .u8 a) (by go_simp) (by go_simp); have q2_b1 : w.heap.size < w2.heap.size := qlt k2_b1_0; have x2_b1 : ¬ w.heap.size = w2.heap.size := qne k2_b1_0; have y2_b1 : ¬ w2.heap.size = w.heap.size := fun h => qne k2_b1_0 h.symm; have B2 : Below w.heap.size w w2 := bel_step (by repeat (first | with_reducible exact Below.refl _ _ | with_reducible exact B1 | with_reducible apply below_drewN | with_reducible apply Below.drew | (with_reducible refine Below.alloc ?_ (by first | (simp; done) | (simp; omega) | omega) _) | (with_reducible refine Below.setCell ?_ (by first | (simp; done) | (simp; omega) | omega) _))) hb2; have z2 : w.heap.size + 1 ≤ w2.heap.size := Nat.le_trans (by first | with_reducible assumption | (simp; done) | (simp; omega)) hb2.size; clear hb2; (try clear k1_b1_0); (try clear g1_b1_0); (try clear k1_b1_1); (try clear g1_b1_1); (try clear k1_b1_2); (try clear g1_b1_2); (try clear k1_b1_3); (try clear g1_b1_3); (try clear B1); (try clear z1); (try clear q1_b1); (try clear x1_b1); (try clear y1_b1)))
  refine wp_region_env (fun w' => w'.cell? ⟨w.heap.size, 0, none⟩ = some (.int .u8 r) ∧ w'.frozen? ⟨w.heap.size, 0, none⟩ = false ∧ w'.cell? ⟨w.heap.size, 1, none⟩ = some (.int .u8 g) ∧ w'.frozen? ⟨w.heap.size, 1, none⟩ = false ∧ w'.cell? ⟨w.heap.size, 2, none⟩ = some (.int .u8 b) ∧ w'.frozen? ⟨w.heap.size, 2, none⟩ = false ∧ w'.cell? ⟨w.heap.size, 3, none⟩ = some (.int .u8 a) ∧ w'.frozen? ⟨w.heap.size, 3, none⟩ = false ∧ w'.cell? ⟨w2.heap.size, 0, none⟩ = some (.int .u8 r) ∧ w'.frozen? ⟨w2.heap.size, 0, none⟩ = false ∧ w'.cell? ⟨w2.heap.size, 1, none⟩ = some (.int .u8 g) ∧ w'.frozen? ⟨w2.heap.size, 1, none⟩ = false ∧ w'.cell? ⟨w2.heap.size, 2, none⟩ = some (.int .u8 b) ∧ w'.frozen? ⟨w2.heap.size, 2, none⟩ = false ∧ w'.cell? ⟨w2.heap.size, 3, none⟩ = some (.int .u8 a) ∧ w'.frozen? ⟨w2.heap.size, 3, none⟩ = false) (fun W => W.cell? ⟨w.heap.size, 0, none⟩ = some (.int .u8 r) ∧ W.frozen? ⟨w.heap.size, 0, none⟩ = false ∧ W.cell? ⟨w.heap.size, 1, none⟩ = some (.int .u8 g) ∧ W.frozen? ⟨w.heap.size, 1, none⟩ = false ∧ W.cell? ⟨w.heap.size, 2, none⟩ = some (.int .u8 b) ∧ W.frozen? ⟨w.heap.size, 2, none⟩ = false ∧ W.cell? ⟨w.heap.size, 3, none⟩ = some (.int .u8 a) ∧ W.frozen? ⟨w.heap.size, 3, none⟩ = false ∧ W.cell? ⟨w2.heap.size, 0, none⟩ = some (.int .u8 r) ∧ W.frozen? ⟨w2.heap.size, 0, none⟩ = false ∧ W.cell? ⟨w2.heap.size, 1, none⟩ = some (.int .u8 g) ∧ W.frozen? ⟨w2.heap.size, 1, none⟩ = false ∧ W.cell? ⟨w2.heap.size, 2, none⟩ = some (.int .u8 b) ∧ W.frozen? ⟨w2.heap.size, 2, none⟩ = false ∧ W.cell? ⟨w2.heap.size, 3, none⟩ = some (.int .u8 a) ∧ W.frozen? ⟨w2.heap.size, 3, none⟩ = false ∧ Below w.heap.size w W ∧ w.heap.size + 1 ≤ W.heap.size) 35 70 [.val (.bool true), .val (.bool true), .val (.agg #[.int .u8 r, .int .u8 g, .int .u8 b, .int .u8 a]), .val (.agg #[.int .u8 r, .int .u8 g, .int .u8 b, .int .u8 a]), .val (.bool true), .val (.bool true), .val (.bool true), .val (.int .i64 H), .val (.bool true), .val (.bool true), .val (.bool true), .val (.int .i64 H), .val (.bool true), .val (.bool true), .val (.bool true), .val (.bool false), .val (.int .i64 s), .val (.bool false), .val (.bool true), .val (.bool true), .val (.bool true), .val (.bool false), .val (.bool true), .val (.bool true), .skip, .skip, .skip, .skip, .skip, .val (.bool true), .val (.bool true), .val (.bool true), .call 14 #[] (.bool true), .val (.bool true), .val (.bool true)] (by kernel_rfl) (by kernel_rfl) rfl (by kernel_rfl) (by rintro w1 w2 ⟨h0, h1, h2, h3, h4, h5, h6, h7, h8, h9, h10, h11, h12, h13, h14, h15⟩ hb; exact ⟨bcs hb h0, bfs hb h0 h1, bcs hb h2, bfs hb h2 h3, bcs hb h4, bfs hb h4 h5, bcs hb h6, bfs hb h6 h7, bcs hb h8, bfs hb h8 h9, bcs hb h10, bfs hb h10 h11, bcs hb h12, bfs hb h12 h13, bcs hb h14, bfs hb h14 h15⟩) ⟨by first | with_reducible assumption | go_simp, by first | with_reducible assumption | go_simp, by first | with_reducible assumption | go_simp, by first | with_reducible assumption | go_simp, by first | with_reducible assumption | go_simp, by first | with_reducible assumption | go_simp, by first | with_reducible assumption | go_simp, by first | with_reducible assumption | go_simp, by first | with_reducible assumption | go_simp, by first | with_reducible assumption | go_simp, by first | with_reducible assumption | go_simp, by first | with_reducible assumption | go_simp, by first | with_reducible assumption | go_simp, by first | with_reducible assumption | go_simp, by first | with_reducible assumption | go_simp, by first | with_reducible assumption | go_simp, by repeat (first | with_reducible exact Below.refl _ _ | with_reducible exact B2 | with_reducible apply below_drewN | with_reducible apply Below.drew | (with_reducible refine Below.alloc ?_ (by first | (simp; done) | (simp; omega) | omega) _) | (with_reducible refine Below.setCell ?_ (by first | (simp; done) | (simp; omega) | omega) _)), by first | with_reducible assumption | (simp; done) | (simp; omega)⟩ ?_ ?_
  · rintro W ⟨k3_b1_0, g3_b1_0, k3_b1_1, g3_b1_1, k3_b1_2, g3_b1_2, k3_b1_3, g3_b1_3, k3_g6_0, g3_g6_0, k3_g6_1, g3_g6_1, k3_g6_2, g3_g6_2, k3_g6_3, g3_g6_3, B3, z3⟩; exact ⟨k3_b1_0, g3_b1_0, k3_b1_1, g3_b1_1, k3_b1_2, g3_b1_2, k3_b1_3, g3_b1_3, k3_g6_0, g3_g6_0, k3_g6_1, g3_g6_1, k3_g6_2, g3_g6_2, k3_g6_3, g3_g6_3⟩
  (try clear B2)
  (try clear z2)
  (try clear k2_b1_0)
  (try clear g2_b1_0)
  (try clear k2_b1_1)
  (try clear g2_b1_1)
  (try clear k2_b1_2)
  (try clear g2_b1_2)
  (try clear k2_b1_3)
  (try clear g2_b1_3)
  (try clear k2_g6_0)
  (try clear g2_g6_0)
  (try clear k2_g6_1)
  (try clear g2_g6_1)
  (try clear k2_g6_2)
  (try clear g2_g6_2)
  (try clear k2_g6_3)
  (try clear g2_g6_3)
  (try clear q2_b1)
  (try clear x2_b1)
  (try clear y2_b1)
  (try clear q2_g6)
  (try clear x2_g6)
  (try clear y2_g6)
  rintro w3 ⟨k3_b1_0, g3_b1_0, k3_b1_1, g3_b1_1, k3_b1_2, g3_b1_2, k3_b1_3, g3_b1_3, k3_g6_0, g3_g6_0, k3_g6_1, g3_g6_1, k3_g6_2, g3_g6_2, k3_g6_3, g3_g6_3, B3, z3⟩ gg
  simp only [List.take_succ_cons, List.take_zero, List.drop_succ_cons, List.drop_zero, List.cons_append, List.nil_append, List.append_nil]
  refine obe_val (by rfl) ?_ ?_
  · clear k3_b1_0 g3_b1_0 k3_b1_1 g3_b1_1 k3_b1_2 g3_b1_2 k3_b1_3 g3_b1_3 k3_g6_0 g3_g6_0 k3_g6_1 g3_g6_1 k3_g6_2 g3_g6_2 k3_g6_3 g3_g6_3 B3 z3; intro f hf; have u7 : f 7 = (.bool true) := (by rw [← hf]; rfl); clear hf; rintro w' ⟨h0, h1, h2, h3, h4, h5, h6, h7, h8, h9, h10, h11, h12, h13, h14, h15⟩; go_simp; try exact IntWalk.i64_in _ (by omega)
  refine obe_val (by rfl) ?_ ?_
  · clear k3_b1_0 g3_b1_0 k3_b1_1 g3_b1_1 k3_b1_2 g3_b1_2 k3_b1_3 g3_b1_3 k3_g6_0 g3_g6_0 k3_g6_1 g3_g6_1 k3_g6_2 g3_g6_2 k3_g6_3 g3_g6_3 B3 z3; intro f hf; have u36 : f 36 = (.bool true) := (by rw [← hf]; rfl); clear hf; rintro w' ⟨h0, h1, h2, h3, h4, h5, h6, h7, h8, h9, h10, h11, h12, h13, h14, h15⟩; go_simp; try exact IntWalk.i64_in _ (by omega)
  refine obe_val (by rfl) ?_ ?_
  · clear k3_b1_0 g3_b1_0 k3_b1_1 g3_b1_1 k3_b1_2 g3_b1_2 k3_b1_3 g3_b1_3 k3_g6_0 g3_g6_0 k3_g6_1 g3_g6_1 k3_g6_2 g3_g6_2 k3_g6_3 g3_g6_3 B3 z3; intro f hf; have u6 : f 6 = (.pointer (some ⟨w2.heap.size, 0, none⟩)) := (by rw [← hf]; rfl); clear hf; rintro w' ⟨h0, h1, h2, h3, h4, h5, h6, h7, h8, h9, h10, h11, h12, h13, h14, h15⟩; go_simp; try exact IntWalk.i64_in _ (by omega)
  refine obe_val (by rfl) ?_ ?_
  · clear k3_b1_0 g3_b1_0 k3_b1_1 g3_b1_1 k3_b1_2 g3_b1_2 k3_b1_3 g3_b1_3 k3_g6_0 g3_g6_0 k3_g6_1 g3_g6_1 k3_g6_2 g3_g6_2 k3_g6_3 g3_g6_3 B3 z3; intro f hf; have u1 : f 1 = (.pointer (some ⟨w.heap.size, 0, none⟩)) := (by rw [← hf]; rfl); clear hf; rintro w' ⟨h0, h1, h2, h3, h4, h5, h6, h7, h8, h9, h10, h11, h12, h13, h14, h15⟩; go_simp; try exact IntWalk.i64_in _ (by omega)
  refine obe_val (by rfl) ?_ ?_
  · clear k3_b1_0 g3_b1_0 k3_b1_1 g3_b1_1 k3_b1_2 g3_b1_2 k3_b1_3 g3_b1_3 k3_g6_0 g3_g6_0 k3_g6_1 g3_g6_1 k3_g6_2 g3_g6_2 k3_g6_3 g3_g6_3 B3 z3; intro f hf; have u38 : f 38 = (.agg #[.int .u8 r, .int .u8 g, .int .u8 b, .int .u8 a]) := (by rw [← hf]; rfl); have u39 : f 39 = (.agg #[.int .u8 r, .int .u8 g, .int .u8 b, .int .u8 a]) := (by rw [← hf]; rfl); clear hf; rintro w' ⟨h0, h1, h2, h3, h4, h5, h6, h7, h8, h9, h10, h11, h12, h13, h14, h15⟩; go_simp; try exact IntWalk.i64_in _ (by omega)
  refine obe_val (by rfl) ?_ ?_
  · clear k3_b1_0 g3_b1_0 k3_b1_1 g3_b1_1 k3_b1_2 g3_b1_2 k3_b1_3 g3_b1_3 k3_g6_0 g3_g6_0 k3_g6_1 g3_g6_1 k3_g6_2 g3_g6_2 k3_g6_3 g3_g6_3 B3 z3; intro f hf; have u37 : f 37 = (.bool true) := (by rw [← hf]; rfl); have u40 : f 40 = (.bool true) := (by rw [← hf]; rfl); clear hf; rintro w' ⟨h0, h1, h2, h3, h4, h5, h6, h7, h8, h9, h10, h11, h12, h13, h14, h15⟩; go_simp; try exact IntWalk.i64_in _ (by omega)
  refine obe_val (by rfl) ?_ ?_
  · clear k3_b1_0 g3_b1_0 k3_b1_1 g3_b1_1 k3_b1_2 g3_b1_2 k3_b1_3 g3_b1_3 k3_g6_0 g3_g6_0 k3_g6_1 g3_g6_1 k3_g6_2 g3_g6_2 k3_g6_3 g3_g6_3 B3 z3; intro f hf; have u41 : f 41 = (.bool true) := (by rw [← hf]; rfl); clear hf; rintro w' ⟨h0, h1, h2, h3, h4, h5, h6, h7, h8, h9, h10, h11, h12, h13, h14, h15⟩; go_simp; try exact IntWalk.i64_in _ (by omega)
  refine obe_val (by rfl) ?_ ?_
  · clear k3_b1_0 g3_b1_0 k3_b1_1 g3_b1_1 k3_b1_2 g3_b1_2 k3_b1_3 g3_b1_3 k3_g6_0 g3_g6_0 k3_g6_1 g3_g6_1 k3_g6_2 g3_g6_2 k3_g6_3 g3_g6_3 B3 z3; intro f hf; have u3 : f 3 = (.int .i64 H) := (by rw [← hf]; rfl); clear hf; rintro w' ⟨h0, h1, h2, h3, h4, h5, h6, h7, h8, h9, h10, h11, h12, h13, h14, h15⟩; go_simp; try exact IntWalk.i64_in _ (by omega)
  refine obe_val (by rfl) ?_ ?_
  · clear k3_b1_0 g3_b1_0 k3_b1_1 g3_b1_1 k3_b1_2 g3_b1_2 k3_b1_3 g3_b1_3 k3_g6_0 g3_g6_0 k3_g6_1 g3_g6_1 k3_g6_2 g3_g6_2 k3_g6_3 g3_g6_3 B3 z3; intro f hf; have u43 : f 43 = (.int .i64 H) := (by rw [← hf]; rfl); clear hf; rintro w' ⟨h0, h1, h2, h3, h4, h5, h6, h7, h8, h9, h10, h11, h12, h13, h14, h15⟩; go_simp; try exact IntWalk.i64_in _ (by omega)
  refine obe_val (by rfl) ?_ ?_
  · clear k3_b1_0 g3_b1_0 k3_b1_1 g3_b1_1 k3_b1_2 g3_b1_2 k3_b1_3 g3_b1_3 k3_g6_0 g3_g6_0 k3_g6_1 g3_g6_1 k3_g6_2 g3_g6_2 k3_g6_3 g3_g6_3 B3 z3; intro f hf; have u42 : f 42 = (.bool true) := (by rw [← hf]; rfl); have u44 : f 44 = (.bool true) := (by rw [← hf]; rfl); clear hf; rintro w' ⟨h0, h1, h2, h3, h4, h5, h6, h7, h8, h9, h10, h11, h12, h13, h14, h15⟩; go_simp; try exact IntWalk.i64_in _ (by omega)
  refine obe_val (by rfl) ?_ ?_
  · clear k3_b1_0 g3_b1_0 k3_b1_1 g3_b1_1 k3_b1_2 g3_b1_2 k3_b1_3 g3_b1_3 k3_g6_0 g3_g6_0 k3_g6_1 g3_g6_1 k3_g6_2 g3_g6_2 k3_g6_3 g3_g6_3 B3 z3; intro f hf; have u45 : f 45 = (.bool true) := (by rw [← hf]; rfl); clear hf; rintro w' ⟨h0, h1, h2, h3, h4, h5, h6, h7, h8, h9, h10, h11, h12, h13, h14, h15⟩; go_simp; try exact IntWalk.i64_in _ (by omega)
  refine obe_val (by rfl) ?_ ?_
  · clear k3_b1_0 g3_b1_0 k3_b1_1 g3_b1_1 k3_b1_2 g3_b1_2 k3_b1_3 g3_b1_3 k3_g6_0 g3_g6_0 k3_g6_1 g3_g6_1 k3_g6_2 g3_g6_2 k3_g6_3 g3_g6_3 B3 z3; intro f hf; have u3 : f 3 = (.int .i64 H) := (by rw [← hf]; rfl); clear hf; rintro w' ⟨h0, h1, h2, h3, h4, h5, h6, h7, h8, h9, h10, h11, h12, h13, h14, h15⟩; go_simp; try exact IntWalk.i64_in _ (by omega)
  refine obe_val (by rfl) ?_ ?_
  · clear k3_b1_0 g3_b1_0 k3_b1_1 g3_b1_1 k3_b1_2 g3_b1_2 k3_b1_3 g3_b1_3 k3_g6_0 g3_g6_0 k3_g6_1 g3_g6_1 k3_g6_2 g3_g6_2 k3_g6_3 g3_g6_3 B3 z3; intro f hf; have u47 : f 47 = (.int .i64 H) := (by rw [← hf]; rfl); clear hf; rintro w' ⟨h0, h1, h2, h3, h4, h5, h6, h7, h8, h9, h10, h11, h12, h13, h14, h15⟩; go_simp; try exact IntWalk.i64_in _ (by omega)
  refine obe_val (by rfl) ?_ ?_
  · clear k3_b1_0 g3_b1_0 k3_b1_1 g3_b1_1 k3_b1_2 g3_b1_2 k3_b1_3 g3_b1_3 k3_g6_0 g3_g6_0 k3_g6_1 g3_g6_1 k3_g6_2 g3_g6_2 k3_g6_3 g3_g6_3 B3 z3; intro f hf; have u46 : f 46 = (.bool true) := (by rw [← hf]; rfl); have u48 : f 48 = (.bool true) := (by rw [← hf]; rfl); clear hf; rintro w' ⟨h0, h1, h2, h3, h4, h5, h6, h7, h8, h9, h10, h11, h12, h13, h14, h15⟩; go_simp; try exact IntWalk.i64_in _ (by omega)
  refine obe_val (by rfl) ?_ ?_
  · clear k3_b1_0 g3_b1_0 k3_b1_1 g3_b1_1 k3_b1_2 g3_b1_2 k3_b1_3 g3_b1_3 k3_g6_0 g3_g6_0 k3_g6_1 g3_g6_1 k3_g6_2 g3_g6_2 k3_g6_3 g3_g6_3 B3 z3; intro f hf; have u49 : f 49 = (.bool true) := (by rw [← hf]; rfl); clear hf; rintro w' ⟨h0, h1, h2, h3, h4, h5, h6, h7, h8, h9, h10, h11, h12, h13, h14, h15⟩; go_simp; try exact IntWalk.i64_in _ (by omega)
  refine obe_val (by rfl) ?_ ?_
  · clear k3_b1_0 g3_b1_0 k3_b1_1 g3_b1_1 k3_b1_2 g3_b1_2 k3_b1_3 g3_b1_3 k3_g6_0 g3_g6_0 k3_g6_1 g3_g6_1 k3_g6_2 g3_g6_2 k3_g6_3 g3_g6_3 B3 z3; intro f hf; have u8 : f 8 = (.bool false) := (by rw [← hf]; rfl); clear hf; rintro w' ⟨h0, h1, h2, h3, h4, h5, h6, h7, h8, h9, h10, h11, h12, h13, h14, h15⟩; go_simp; try exact IntWalk.i64_in _ (by omega)
  refine obe_val (by rfl) ?_ ?_
  · clear k3_b1_0 g3_b1_0 k3_b1_1 g3_b1_1 k3_b1_2 g3_b1_2 k3_b1_3 g3_b1_3 k3_g6_0 g3_g6_0 k3_g6_1 g3_g6_1 k3_g6_2 g3_g6_2 k3_g6_3 g3_g6_3 B3 z3; intro f hf; have u4 : f 4 = (.int .i64 s) := (by rw [← hf]; rfl); clear hf; rintro w' ⟨h0, h1, h2, h3, h4, h5, h6, h7, h8, h9, h10, h11, h12, h13, h14, h15⟩; go_simp; try exact IntWalk.i64_in _ (by omega)
  refine obe_val (by rfl) ?_ ?_
  · clear k3_b1_0 g3_b1_0 k3_b1_1 g3_b1_1 k3_b1_2 g3_b1_2 k3_b1_3 g3_b1_3 k3_g6_0 g3_g6_0 k3_g6_1 g3_g6_1 k3_g6_2 g3_g6_2 k3_g6_3 g3_g6_3 B3 z3; intro f hf; have u52 : f 52 = (.int .i64 s) := (by rw [← hf]; rfl); clear hf; rintro w' ⟨h0, h1, h2, h3, h4, h5, h6, h7, h8, h9, h10, h11, h12, h13, h14, h15⟩; go_simp; try exact IntWalk.i64_in _ (by omega)
  refine obe_val (by rfl) ?_ ?_
  · clear k3_b1_0 g3_b1_0 k3_b1_1 g3_b1_1 k3_b1_2 g3_b1_2 k3_b1_3 g3_b1_3 k3_g6_0 g3_g6_0 k3_g6_1 g3_g6_1 k3_g6_2 g3_g6_2 k3_g6_3 g3_g6_3 B3 z3; intro f hf; have u51 : f 51 = (.bool false) := (by rw [← hf]; rfl); have u53 : f 53 = (.bool false) := (by rw [← hf]; rfl); clear hf; rintro w' ⟨h0, h1, h2, h3, h4, h5, h6, h7, h8, h9, h10, h11, h12, h13, h14, h15⟩; go_simp; try exact IntWalk.i64_in _ (by omega)
  refine obe_val (by rfl) ?_ ?_
  · clear k3_b1_0 g3_b1_0 k3_b1_1 g3_b1_1 k3_b1_2 g3_b1_2 k3_b1_3 g3_b1_3 k3_g6_0 g3_g6_0 k3_g6_1 g3_g6_1 k3_g6_2 g3_g6_2 k3_g6_3 g3_g6_3 B3 z3; intro f hf; have u50 : f 50 = (.bool true) := (by rw [← hf]; rfl); have u54 : f 54 = (.bool true) := (by rw [← hf]; rfl); clear hf; rintro w' ⟨h0, h1, h2, h3, h4, h5, h6, h7, h8, h9, h10, h11, h12, h13, h14, h15⟩; go_simp; try exact IntWalk.i64_in _ (by omega)
  refine obe_val (by rfl) ?_ ?_
  · clear k3_b1_0 g3_b1_0 k3_b1_1 g3_b1_1 k3_b1_2 g3_b1_2 k3_b1_3 g3_b1_3 k3_g6_0 g3_g6_0 k3_g6_1 g3_g6_1 k3_g6_2 g3_g6_2 k3_g6_3 g3_g6_3 B3 z3; intro f hf; have u55 : f 55 = (.bool true) := (by rw [← hf]; rfl); clear hf; rintro w' ⟨h0, h1, h2, h3, h4, h5, h6, h7, h8, h9, h10, h11, h12, h13, h14, h15⟩; go_simp; try exact IntWalk.i64_in _ (by omega)
  refine obe_val (by rfl) ?_ ?_
  · clear k3_b1_0 g3_b1_0 k3_b1_1 g3_b1_1 k3_b1_2 g3_b1_2 k3_b1_3 g3_b1_3 k3_g6_0 g3_g6_0 k3_g6_1 g3_g6_1 k3_g6_2 g3_g6_2 k3_g6_3 g3_g6_3 B3 z3; intro f hf; have u8 : f 8 = (.bool false) := (by rw [← hf]; rfl); clear hf; rintro w' ⟨h0, h1, h2, h3, h4, h5, h6, h7, h8, h9, h10, h11, h12, h13, h14, h15⟩; go_simp; try exact IntWalk.i64_in _ (by omega)
  refine obe_val (by rfl) ?_ ?_
  · clear k3_b1_0 g3_b1_0 k3_b1_1 g3_b1_1 k3_b1_2 g3_b1_2 k3_b1_3 g3_b1_3 k3_g6_0 g3_g6_0 k3_g6_1 g3_g6_1 k3_g6_2 g3_g6_2 k3_g6_3 g3_g6_3 B3 z3; intro f hf; have u57 : f 57 = (.bool false) := (by rw [← hf]; rfl); clear hf; rintro w' ⟨h0, h1, h2, h3, h4, h5, h6, h7, h8, h9, h10, h11, h12, h13, h14, h15⟩; go_simp; try exact IntWalk.i64_in _ (by omega)
  refine obe_val (by rfl) ?_ ?_
  · clear k3_b1_0 g3_b1_0 k3_b1_1 g3_b1_1 k3_b1_2 g3_b1_2 k3_b1_3 g3_b1_3 k3_g6_0 g3_g6_0 k3_g6_1 g3_g6_1 k3_g6_2 g3_g6_2 k3_g6_3 g3_g6_3 B3 z3; intro f hf; have u58 : f 58 = (.bool true) := (by rw [← hf]; rfl); clear hf; rintro w' ⟨h0, h1, h2, h3, h4, h5, h6, h7, h8, h9, h10, h11, h12, h13, h14, h15⟩; go_simp; try exact IntWalk.i64_in _ (by omega)
  refine obe_skip (by rfl) ?_
  refine obe_skip (by rfl) ?_
  refine obe_skip (by rfl) ?_
  refine obe_skip (by rfl) ?_
  refine obe_skip (by rfl) ?_
  refine obe_val (by rfl) ?_ ?_
  · clear k3_b1_0 g3_b1_0 k3_b1_1 g3_b1_1 k3_b1_2 g3_b1_2 k3_b1_3 g3_b1_3 k3_g6_0 g3_g6_0 k3_g6_1 g3_g6_1 k3_g6_2 g3_g6_2 k3_g6_3 g3_g6_3 B3 z3; intro f hf; have u59 : f 59 = (.bool true) := (by rw [← hf]; rfl); clear hf; rintro w' ⟨h0, h1, h2, h3, h4, h5, h6, h7, h8, h9, h10, h11, h12, h13, h14, h15⟩; go_simp; try exact IntWalk.i64_in _ (by omega)
  refine obe_val (by rfl) ?_ ?_
  · clear k3_b1_0 g3_b1_0 k3_b1_1 g3_b1_1 k3_b1_2 g3_b1_2 k3_b1_3 g3_b1_3 k3_g6_0 g3_g6_0 k3_g6_1 g3_g6_1 k3_g6_2 g3_g6_2 k3_g6_3 g3_g6_3 B3 z3; intro f hf; have u56 : f 56 = (.bool true) := (by rw [← hf]; rfl); have u65 : f 65 = (.bool true) := (by rw [← hf]; rfl); clear hf; rintro w' ⟨h0, h1, h2, h3, h4, h5, h6, h7, h8, h9, h10, h11, h12, h13, h14, h15⟩; go_simp; try exact IntWalk.i64_in _ (by omega)
  refine obe_val (by rfl) ?_ ?_
  · clear k3_b1_0 g3_b1_0 k3_b1_1 g3_b1_1 k3_b1_2 g3_b1_2 k3_b1_3 g3_b1_3 k3_g6_0 g3_g6_0 k3_g6_1 g3_g6_1 k3_g6_2 g3_g6_2 k3_g6_3 g3_g6_3 B3 z3; intro f hf; have u66 : f 66 = (.bool true) := (by rw [← hf]; rfl); clear hf; rintro w' ⟨h0, h1, h2, h3, h4, h5, h6, h7, h8, h9, h10, h11, h12, h13, h14, h15⟩; go_simp; try exact IntWalk.i64_in _ (by omega)
  refine obe_call (by rfl) ?_ ?_ ?_
  · clear k3_b1_0 g3_b1_0 k3_b1_1 g3_b1_1 k3_b1_2 g3_b1_2 k3_b1_3 g3_b1_3 k3_g6_0 g3_g6_0 k3_g6_1 g3_g6_1 k3_g6_2 g3_g6_2 k3_g6_3 g3_g6_3 B3 z3; intro f hf; clear hf; intro w' _; simp only [execOp, resolve, invoke, rhoF_tmp, rhoF_func, rhoF_const, List.map_toArray, List.map_cons, List.map_nil]; go_simp
  · clear k3_b1_0 g3_b1_0 k3_b1_1 g3_b1_1 k3_b1_2 g3_b1_2 k3_b1_3 g3_b1_3 k3_g6_0 g3_g6_0 k3_g6_1 g3_g6_1 k3_g6_2 g3_g6_2 k3_g6_3 g3_g6_3 B3 z3; rintro w' ⟨h0, h1, h2, h3, h4, h5, h6, h7, h8, h9, h10, h11, h12, h13, h14, h15⟩; exact cex_any _
  refine obe_val (by rfl) ?_ ?_
  · clear k3_b1_0 g3_b1_0 k3_b1_1 g3_b1_1 k3_b1_2 g3_b1_2 k3_b1_3 g3_b1_3 k3_g6_0 g3_g6_0 k3_g6_1 g3_g6_1 k3_g6_2 g3_g6_2 k3_g6_3 g3_g6_3 B3 z3; intro f hf; have u67 : f 67 = (.bool true) := (by rw [← hf]; rfl); have u68 : f 68 = (.bool true) := (by rw [← hf]; rfl); clear hf; rintro w' ⟨h0, h1, h2, h3, h4, h5, h6, h7, h8, h9, h10, h11, h12, h13, h14, h15⟩; go_simp; try exact IntWalk.i64_in _ (by omega)
  refine obe_val (by rfl) ?_ ?_
  · clear k3_b1_0 g3_b1_0 k3_b1_1 g3_b1_1 k3_b1_2 g3_b1_2 k3_b1_3 g3_b1_3 k3_g6_0 g3_g6_0 k3_g6_1 g3_g6_1 k3_g6_2 g3_g6_2 k3_g6_3 g3_g6_3 B3 z3; intro f hf; have u69 : f 69 = (.bool true) := (by rw [← hf]; rfl); clear hf; rintro w' ⟨h0, h1, h2, h3, h4, h5, h6, h7, h8, h9, h10, h11, h12, h13, h14, h15⟩; go_simp; try exact IntWalk.i64_in _ (by omega)
  refine obe_nil ?_
  rintro w4 ⟨h0, h1, h2, h3, h4, h5, h6, h7, h8, h9, h10, h11, h12, h13, h14, h15⟩ hb4 hF
  (try simp only [List.nil_append, List.append_nil, List.cons_append] at hF)
  simp only [puts, putD, Act.put, List.setIfInBounds_toArray, List.set_cons_zero, List.set_cons_succ]
  clear hF
  have k4_b1_0 := bcs hb4 k3_b1_0
  have g4_b1_0 := bfs hb4 k3_b1_0 g3_b1_0
  have k4_b1_1 := bcs hb4 k3_b1_1
  have g4_b1_1 := bfs hb4 k3_b1_1 g3_b1_1
  have k4_b1_2 := bcs hb4 k3_b1_2
  have g4_b1_2 := bfs hb4 k3_b1_2 g3_b1_2
  have k4_b1_3 := bcs hb4 k3_b1_3
  have g4_b1_3 := bfs hb4 k3_b1_3 g3_b1_3
  have k4_g6_0 := bcs hb4 k3_g6_0
  have g4_g6_0 := bfs hb4 k3_g6_0 g3_g6_0
  have k4_g6_1 := bcs hb4 k3_g6_1
  have g4_g6_1 := bfs hb4 k3_g6_1 g3_g6_1
  have k4_g6_2 := bcs hb4 k3_g6_2
  have g4_g6_2 := bfs hb4 k3_g6_2 g3_g6_2
  have k4_g6_3 := bcs hb4 k3_g6_3
  have g4_g6_3 := bfs hb4 k3_g6_3 g3_g6_3
  clear h0 h1 h2 h3 h4 h5 h6 h7 h8 h9 h10 h11 h12 h13 h14 h15
  have B4 := bel_step B3 hb4
  have z4 := Nat.le_trans z3 hb4.size
  clear hb4
  (try clear B3)
  (try clear z3)
  (try clear k3_b1_0)
  (try clear g3_b1_0)
  (try clear k3_b1_1)
  (try clear g3_b1_1)
  (try clear k3_b1_2)
  (try clear g3_b1_2)
  (try clear k3_b1_3)
  (try clear g3_b1_3)
  (try clear k3_g6_0)
  (try clear g3_g6_0)
  (try clear k3_g6_1)
  (try clear g3_g6_1)
  (try clear k3_g6_2)
  (try clear g3_g6_2)
  (try clear k3_g6_3)
  (try clear g3_g6_3)
  (try clear q3_b1)
  (try clear x3_b1)
  (try clear y3_b1)
  (try clear q3_g6)
  (try clear x3_g6)
  (try clear y3_g6)
  have q4_b1 : w.heap.size < w4.heap.size := qlt k4_b1_0
  have x4_b1 : ¬ w.heap.size = w4.heap.size := qne k4_b1_0
  have y4_b1 : ¬ w4.heap.size = w.heap.size := fun h => qne k4_b1_0 h.symm
  have q4_g6 : w2.heap.size < w4.heap.size := qlt k4_g6_0
  have x4_g6 : ¬ w2.heap.size = w4.heap.size := qne k4_g6_0
  have y4_g6 : ¬ w4.heap.size = w2.heap.size := fun h => qne k4_g6_0 h.symm
  unfold wpList
  go_wp2
  go_ret
  refine ⟨rfl, ?_⟩
  repeat (first | with_reducible exact Below.refl _ _ | with_reducible exact B4 | with_reducible apply below_drewN | with_reducible apply Below.drew | (with_reducible refine Below.alloc ?_ (by first | (simp; done) | (simp; omega) | omega) _) | (with_reducible refine Below.setCell ?_ (by first | (simp; done) | (simp; omega) | omega) _))

set_option maxRecDepth 50000 in
set_option maxHeartbeats 16000000 in
theorem colorHSL_gb (r b a : Int) (r0 : 0 ≤ r) (r1 : r ≤ 255) (b0 : 0 ≤ b) (b1 : b ≤ 255) (a0 : 0 ≤ a) (a1 : a ≤ 255) (n1 : ¬ r = b) (w : World) :
    Calls Try.prog 7 #[.agg #[.int .u8 r, .int .u8 r, .int .u8 b, .int .u8 a]] w fun e w' => e = .returned (.bool true) ∧ Below w.heap.size w w' := by
  have n2 : (r == b) = false := by rw [beq_eq_false_iff_ne]; omega
  obtain ⟨H, s, l, ct, cf, H0, H1, s1⟩ := hsl_back r r b a r0 r1 r0 r1 b0 b1 a0 a1 (by omega)
  have t1 : (s == 0) = false := by rw [beq_eq_false_iff_ne]; omega
  have t2 : decide (0 ≤ H) = true := by rw [decide_eq_true_iff]; omega
  have t3 : decide (H < 1536) = true := by rw [decide_eq_true_iff]; omega
  go_enter Try.func7, Try.ntmps7
  go_wp2_with (first | (go_at_call 23; (with_reducible refine (ct _).mono ?_); rintro e w1 ⟨rfl, hb1⟩; have k1_b1_0 : w1.cell? ⟨w.heap.size, 0, none⟩ = some (.int .u8 r) := bcs hb1 (by go_simp); have g1_b1_0 : w1.frozen? ⟨w.heap.size, 0, none⟩ = false := bfs hb1 (v := .int .u8 r) (by go_simp) (by go_simp); have k1_b1_1 : w1.cell? ⟨w.heap.size, 1, none⟩ = some (.int .u8 r) := bcs hb1 (by go_simp); have g1_b1_1 : w1.frozen? ⟨w.heap.size, 1, none⟩ = false := bfs hb1 (v := .int .u8 r) (by go_simp) (by go_simp); have k1_b1_2 : w1.cell? ⟨w.heap.size, 2, none⟩ = some (.int .u8 b) := bcs hb1 (by go_simp); have g1_b1_2 : w1.frozen? ⟨w.heap.size, 2, none⟩ = false := bfs hb1 (v := .int .u8 b) (by go_simp) (by go_simp); have k1_b1_3 : w1.cell? ⟨w.heap.size, 3, none⟩ = some (.int .u8 a) := bcs hb1 (by go_simp); have g1_b1_3 : w1.frozen? ⟨w.heap.size, 3, none⟩ = false := bfs hb1 (v := .int .u8 a) (by go_simp) (by go_simp); have q1_b1 : w.heap.size < w1.heap.size := qlt k1_b1_0; have x1_b1 : ¬ w.heap.size = w1.heap.size := qne k1_b1_0; have y1_b1 : ¬ w1.heap.size = w.heap.size := fun h => qne k1_b1_0 h.symm; have B1 : Below w.heap.size w w1 := bel_step (by repeat (first | with_reducible exact Below.refl _ _ | fail | with_reducible apply below_drewN | with_reducible apply Below.drew | (with_reducible refine Below.alloc ?_ (by first | (simp; done) | (simp; omega) | omega) _) | (with_reducible refine Below.setCell ?_ (by first | (simp; done) | (simp; omega) | omega) _))) hb1; have z1 : w.heap.size + 1 ≤ w1.heap.size := Nat.le_trans (by first | with_reducible assumption | (simp; done) | (simp; omega)) hb1.size; clear hb1) | (go_at_call 24; (with_reducible refine (cf _).mono ?_); rintro e w2 ⟨rfl, hb2⟩; have k2_b1_0 : w2.cell? ⟨w.heap.size, 0, none⟩ = some (.int .u8 r) := bcs hb2 (by go_simp); have g2_b1_0 : w2.frozen? ⟨w.heap.size, 0, none⟩ = false := bfs hb2 (v := .int .u8 r) (by go_simp) (by go_simp); have k2_b1_1 : w2.cell? ⟨w.heap.size, 1, none⟩ = some (.int .u8 r) := bcs hb2 (by go_simp); have g2_b1_1 : w2.frozen? ⟨w.heap.size, 1, none⟩ = false := bfs hb2 (v := .int .u8 r) (by go_simp) (by go_simp); have k2_b1_2 : w2.cell? ⟨w.heap.size, 2, none⟩ = some (.int .u8 b) := bcs hb2 (by go_simp); have g2_b1_2 : w2.frozen? ⟨w.heap.size, 2, none⟩ = false := bfs hb2 (v := .int .u8 b) (by go_simp) (by go_simp); have k2_b1_3 : w2.cell? ⟨w.heap.size, 3, none⟩ = some (.int .u8 a) := bcs hb2 (by go_simp); have g2_b1_3 : w2.frozen? ⟨w.heap.size, 3, none⟩ = false := bfs hb2 (v := .int .u8 a) (by go_simp) (by go_simp); have q2_b1 : w.heap.size < w2.heap.size := qlt k2_b1_0; have x2_b1 : ¬ w.heap.size = w2.heap.size := qne k2_b1_0; have y2_b1 : ¬ w2.heap.size = w.heap.size := fun h => qne k2_b1_0 h.symm; have B2 : Below w.heap.size w w2 := bel_step (by repeat (first | with_reducible exact Below.refl _ _ | with_reducible exact B1 | with_reducible apply below_drewN | with_reducible apply Below.drew | (with_reducible refine Below.alloc ?_ (by first | (simp; done) | (simp; omega) | omega) _) | (with_reducible refine Below.setCell ?_ (by first | (simp; done) | (simp; omega) | omega) _))) hb2; have z2 : w.heap.size + 1 ≤ w2.heap.size := Nat.le_trans (by first | with_reducible assumption | (simp; done) | (simp; omega)) hb2.size; clear hb2; (try clear k1_b1_0); (try clear g1_b1_0); (try clear k1_b1_1); (try clear g1_b1_1); (try clear k1_b1_2); (try clear g1_b1_2); (try clear k1_b1_3); (try clear g1_b1_3); (try clear B1); (try clear z1); (try clear q1_b1); (try clear x1_b1); (try clear y1_b1)))
  refine wp_region_env (fun w' => w'.cell? ⟨w.heap.size, 0, none⟩ = some (.int .u8 r) ∧ w'.frozen? ⟨w.heap.size, 0, none⟩ = false ∧ w'.cell? ⟨w.heap.size, 1, none⟩ = some (.int .u8 r) ∧ w'.frozen? ⟨w.heap.size, 1, none⟩ = false ∧ w'.cell? ⟨w.heap.size, 2, none⟩ = some (.int .u8 b) ∧ w'.frozen? ⟨w.heap.size, 2, none⟩ = false ∧ w'.cell? ⟨w.heap.size, 3, none⟩ = some (.int .u8 a) ∧ w'.frozen? ⟨w.heap.size, 3, none⟩ = false ∧ w'.cell? ⟨w2.heap.size, 0, none⟩ = some (.int .u8 r) ∧ w'.frozen? ⟨w2.heap.size, 0, none⟩ = false ∧ w'.cell? ⟨w2.heap.size, 1, none⟩ = some (.int .u8 r) ∧ w'.frozen? ⟨w2.heap.size, 1, none⟩ = false ∧ w'.cell? ⟨w2.heap.size, 2, none⟩ = some (.int .u8 b) ∧ w'.frozen? ⟨w2.heap.size, 2, none⟩ = false ∧ w'.cell? ⟨w2.heap.size, 3, none⟩ = some (.int .u8 a) ∧ w'.frozen? ⟨w2.heap.size, 3, none⟩ = false) (fun W => W.cell? ⟨w.heap.size, 0, none⟩ = some (.int .u8 r) ∧ W.frozen? ⟨w.heap.size, 0, none⟩ = false ∧ W.cell? ⟨w.heap.size, 1, none⟩ = some (.int .u8 r) ∧ W.frozen? ⟨w.heap.size, 1, none⟩ = false ∧ W.cell? ⟨w.heap.size, 2, none⟩ = some (.int .u8 b) ∧ W.frozen? ⟨w.heap.size, 2, none⟩ = false ∧ W.cell? ⟨w.heap.size, 3, none⟩ = some (.int .u8 a) ∧ W.frozen? ⟨w.heap.size, 3, none⟩ = false ∧ W.cell? ⟨w2.heap.size, 0, none⟩ = some (.int .u8 r) ∧ W.frozen? ⟨w2.heap.size, 0, none⟩ = false ∧ W.cell? ⟨w2.heap.size, 1, none⟩ = some (.int .u8 r) ∧ W.frozen? ⟨w2.heap.size, 1, none⟩ = false ∧ W.cell? ⟨w2.heap.size, 2, none⟩ = some (.int .u8 b) ∧ W.frozen? ⟨w2.heap.size, 2, none⟩ = false ∧ W.cell? ⟨w2.heap.size, 3, none⟩ = some (.int .u8 a) ∧ W.frozen? ⟨w2.heap.size, 3, none⟩ = false ∧ Below w.heap.size w W ∧ w.heap.size + 1 ≤ W.heap.size) 35 70 [.val (.bool true), .val (.bool true), .val (.agg #[.int .u8 r, .int .u8 r, .int .u8 b, .int .u8 a]), .val (.agg #[.int .u8 r, .int .u8 r, .int .u8 b, .int .u8 a]), .val (.bool true), .val (.bool true), .val (.bool true), .val (.int .i64 H), .val (.bool true), .val (.bool true), .val (.bool true), .val (.int .i64 H), .val (.bool true), .val (.bool true), .val (.bool true), .val (.bool false), .val (.int .i64 s), .val (.bool false), .val (.bool true), .val (.bool true), .val (.bool true), .val (.bool false), .val (.bool true), .val (.bool true), .skip, .skip, .skip, .skip, .skip, .val (.bool true), .val (.bool true), .val (.bool true), .call 14 #[] (.bool true), .val (.bool true), .val (.bool true)] (by kernel_rfl) (by kernel_rfl) rfl (by kernel_rfl) (by rintro w1 w2 ⟨h0, h1, h2, h3, h4, h5, h6, h7, h8, h9, h10, h11, h12, h13, h14, h15⟩ hb; exact ⟨bcs hb h0, bfs hb h0 h1, bcs hb h2, bfs hb h2 h3, bcs hb h4, bfs hb h4 h5, bcs hb h6, bfs hb h6 h7, bcs hb h8, bfs hb h8 h9, bcs hb h10, bfs hb h10 h11, bcs hb h12, bfs hb h12 h13, bcs hb h14, bfs hb h14 h15⟩) ⟨by first | with_reducible assumption | go_simp, by first | with_reducible assumption | go_simp, by first | with_reducible assumption | go_simp, by first | with_reducible assumption | go_simp, by first | with_reducible assumption | go_simp, by first | with_reducible assumption | go_simp, by first | with_reducible assumption | go_simp, by first | with_reducible assumption | go_simp, by first | with_reducible assumption | go_simp, by first | with_reducible assumption | go_simp, by first | with_reducible assumption | go_simp, by first | with_reducible assumption | go_simp, by first | with_reducible assumption | go_simp, by first | with_reducible assumption | go_simp, by first | with_reducible assumption | go_simp, by first | with_reducible assumption | go_simp, by repeat (first | with_reducible exact Below.refl _ _ | with_reducible exact B2 | with_reducible apply below_drewN | with_reducible apply Below.drew | (with_reducible refine Below.alloc ?_ (by first | (simp; done) | (simp; omega) | omega) _) | (with_reducible refine Below.setCell ?_ (by first | (simp; done) | (simp; omega) | omega) _)), by first | with_reducible assumption | (simp; done) | (simp; omega)⟩ ?_ ?_
  · rintro W ⟨k3_b1_0, g3_b1_0, k3_b1_1, g3_b1_1, k3_b1_2, g3_b1_2, k3_b1_3, g3_b1_3, k3_g6_0, g3_g6_0, k3_g6_1, g3_g6_1, k3_g6_2, g3_g6_2, k3_g6_3, g3_g6_3, B3, z3⟩; exact ⟨k3_b1_0, g3_b1_0, k3_b1_1, g3_b1_1, k3_b1_2, g3_b1_2, k3_b1_3, g3_b1_3, k3_g6_0, g3_g6_0, k3_g6_1, g3_g6_1, k3_g6_2, g3_g6_2, k3_g6_3, g3_g6_3⟩
  (try clear B2)
  (try clear z2)
  (try clear k2_b1_0)
  (try clear g2_b1_0)
  (try clear k2_b1_1)
  (try clear g2_b1_1)
  (try clear k2_b1_2)
  (try clear g2_b1_2)
  (try clear k2_b1_3)
  (try clear g2_b1_3)
  (try clear k2_g6_0)
  (try clear g2_g6_0)
  (try clear k2_g6_1)
  (try clear g2_g6_1)
  (try clear k2_g6_2)
  (try clear g2_g6_2)
  (try clear k2_g6_3)
  (try clear g2_g6_3)
  (try clear q2_b1)
  (try clear x2_b1)
  (try clear y2_b1)
  (try clear q2_g6)
  (try clear x2_g6)
  (try clear y2_g6)
  rintro w3 ⟨k3_b1_0, g3_b1_0, k3_b1_1, g3_b1_1, k3_b1_2, g3_b1_2, k3_b1_3, g3_b1_3, k3_g6_0, g3_g6_0, k3_g6_1, g3_g6_1, k3_g6_2, g3_g6_2, k3_g6_3, g3_g6_3, B3, z3⟩ gg
  simp only [List.take_succ_cons, List.take_zero, List.drop_succ_cons, List.drop_zero, List.cons_append, List.nil_append, List.append_nil]
  refine obe_val (by rfl) ?_ ?_
  · clear k3_b1_0 g3_b1_0 k3_b1_1 g3_b1_1 k3_b1_2 g3_b1_2 k3_b1_3 g3_b1_3 k3_g6_0 g3_g6_0 k3_g6_1 g3_g6_1 k3_g6_2 g3_g6_2 k3_g6_3 g3_g6_3 B3 z3; intro f hf; have u7 : f 7 = (.bool true) := (by rw [← hf]; rfl); clear hf; rintro w' ⟨h0, h1, h2, h3, h4, h5, h6, h7, h8, h9, h10, h11, h12, h13, h14, h15⟩; go_simp; try exact IntWalk.i64_in _ (by omega)
  refine obe_val (by rfl) ?_ ?_
  · clear k3_b1_0 g3_b1_0 k3_b1_1 g3_b1_1 k3_b1_2 g3_b1_2 k3_b1_3 g3_b1_3 k3_g6_0 g3_g6_0 k3_g6_1 g3_g6_1 k3_g6_2 g3_g6_2 k3_g6_3 g3_g6_3 B3 z3; intro f hf; have u36 : f 36 = (.bool true) := (by rw [← hf]; rfl); clear hf; rintro w' ⟨h0, h1, h2, h3, h4, h5, h6, h7, h8, h9, h10, h11, h12, h13, h14, h15⟩; go_simp; try exact IntWalk.i64_in _ (by omega)
  refine obe_val (by rfl) ?_ ?_
  · clear k3_b1_0 g3_b1_0 k3_b1_1 g3_b1_1 k3_b1_2 g3_b1_2 k3_b1_3 g3_b1_3 k3_g6_0 g3_g6_0 k3_g6_1 g3_g6_1 k3_g6_2 g3_g6_2 k3_g6_3 g3_g6_3 B3 z3; intro f hf; have u6 : f 6 = (.pointer (some ⟨w2.heap.size, 0, none⟩)) := (by rw [← hf]; rfl); clear hf; rintro w' ⟨h0, h1, h2, h3, h4, h5, h6, h7, h8, h9, h10, h11, h12, h13, h14, h15⟩; go_simp; try exact IntWalk.i64_in _ (by omega)
  refine obe_val (by rfl) ?_ ?_
  · clear k3_b1_0 g3_b1_0 k3_b1_1 g3_b1_1 k3_b1_2 g3_b1_2 k3_b1_3 g3_b1_3 k3_g6_0 g3_g6_0 k3_g6_1 g3_g6_1 k3_g6_2 g3_g6_2 k3_g6_3 g3_g6_3 B3 z3; intro f hf; have u1 : f 1 = (.pointer (some ⟨w.heap.size, 0, none⟩)) := (by rw [← hf]; rfl); clear hf; rintro w' ⟨h0, h1, h2, h3, h4, h5, h6, h7, h8, h9, h10, h11, h12, h13, h14, h15⟩; go_simp; try exact IntWalk.i64_in _ (by omega)
  refine obe_val (by rfl) ?_ ?_
  · clear k3_b1_0 g3_b1_0 k3_b1_1 g3_b1_1 k3_b1_2 g3_b1_2 k3_b1_3 g3_b1_3 k3_g6_0 g3_g6_0 k3_g6_1 g3_g6_1 k3_g6_2 g3_g6_2 k3_g6_3 g3_g6_3 B3 z3; intro f hf; have u38 : f 38 = (.agg #[.int .u8 r, .int .u8 r, .int .u8 b, .int .u8 a]) := (by rw [← hf]; rfl); have u39 : f 39 = (.agg #[.int .u8 r, .int .u8 r, .int .u8 b, .int .u8 a]) := (by rw [← hf]; rfl); clear hf; rintro w' ⟨h0, h1, h2, h3, h4, h5, h6, h7, h8, h9, h10, h11, h12, h13, h14, h15⟩; go_simp; try exact IntWalk.i64_in _ (by omega)
  refine obe_val (by rfl) ?_ ?_
  · clear k3_b1_0 g3_b1_0 k3_b1_1 g3_b1_1 k3_b1_2 g3_b1_2 k3_b1_3 g3_b1_3 k3_g6_0 g3_g6_0 k3_g6_1 g3_g6_1 k3_g6_2 g3_g6_2 k3_g6_3 g3_g6_3 B3 z3; intro f hf; have u37 : f 37 = (.bool true) := (by rw [← hf]; rfl); have u40 : f 40 = (.bool true) := (by rw [← hf]; rfl); clear hf; rintro w' ⟨h0, h1, h2, h3, h4, h5, h6, h7, h8, h9, h10, h11, h12, h13, h14, h15⟩; go_simp; try exact IntWalk.i64_in _ (by omega)
  refine obe_val (by rfl) ?_ ?_
  · clear k3_b1_0 g3_b1_0 k3_b1_1 g3_b1_1 k3_b1_2 g3_b1_2 k3_b1_3 g3_b1_3 k3_g6_0 g3_g6_0 k3_g6_1 g3_g6_1 k3_g6_2 g3_g6_2 k3_g6_3 g3_g6_3 B3 z3; intro f hf; have u41 : f 41 = (.bool true) := (by rw [← hf]; rfl); clear hf; rintro w' ⟨h0, h1, h2, h3, h4, h5, h6, h7, h8, h9, h10, h11, h12, h13, h14, h15⟩; go_simp; try exact IntWalk.i64_in _ (by omega)
  refine obe_val (by rfl) ?_ ?_
  · clear k3_b1_0 g3_b1_0 k3_b1_1 g3_b1_1 k3_b1_2 g3_b1_2 k3_b1_3 g3_b1_3 k3_g6_0 g3_g6_0 k3_g6_1 g3_g6_1 k3_g6_2 g3_g6_2 k3_g6_3 g3_g6_3 B3 z3; intro f hf; have u3 : f 3 = (.int .i64 H) := (by rw [← hf]; rfl); clear hf; rintro w' ⟨h0, h1, h2, h3, h4, h5, h6, h7, h8, h9, h10, h11, h12, h13, h14, h15⟩; go_simp; try exact IntWalk.i64_in _ (by omega)
  refine obe_val (by rfl) ?_ ?_
  · clear k3_b1_0 g3_b1_0 k3_b1_1 g3_b1_1 k3_b1_2 g3_b1_2 k3_b1_3 g3_b1_3 k3_g6_0 g3_g6_0 k3_g6_1 g3_g6_1 k3_g6_2 g3_g6_2 k3_g6_3 g3_g6_3 B3 z3; intro f hf; have u43 : f 43 = (.int .i64 H) := (by rw [← hf]; rfl); clear hf; rintro w' ⟨h0, h1, h2, h3, h4, h5, h6, h7, h8, h9, h10, h11, h12, h13, h14, h15⟩; go_simp; try exact IntWalk.i64_in _ (by omega)
  refine obe_val (by rfl) ?_ ?_
  · clear k3_b1_0 g3_b1_0 k3_b1_1 g3_b1_1 k3_b1_2 g3_b1_2 k3_b1_3 g3_b1_3 k3_g6_0 g3_g6_0 k3_g6_1 g3_g6_1 k3_g6_2 g3_g6_2 k3_g6_3 g3_g6_3 B3 z3; intro f hf; have u42 : f 42 = (.bool true) := (by rw [← hf]; rfl); have u44 : f 44 = (.bool true) := (by rw [← hf]; rfl); clear hf; rintro w' ⟨h0, h1, h2, h3, h4, h5, h6, h7, h8, h9, h10, h11, h12, h13, h14, h15⟩; go_simp; try exact IntWalk.i64_in _ (by omega)
  refine obe_val (by rfl) ?_ ?_
  · clear k3_b1_0 g3_b1_0 k3_b1_1 g3_b1_1 k3_b1_2 g3_b1_2 k3_b1_3 g3_b1_3 k3_g6_0 g3_g6_0 k3_g6_1 g3_g6_1 k3_g6_2 g3_g6_2 k3_g6_3 g3_g6_3 B3 z3; intro f hf; have u45 : f 45 = (.bool true) := (by rw [← hf]; rfl); clear hf; rintro w' ⟨h0, h1, h2, h3, h4, h5, h6, h7, h8, h9, h10, h11, h12, h13, h14, h15⟩; go_simp; try exact IntWalk.i64_in _ (by omega)
  refine obe_val (by rfl) ?_ ?_
  · clear k3_b1_0 g3_b1_0 k3_b1_1 g3_b1_1 k3_b1_2 g3_b1_2 k3_b1_3 g3_b1_3 k3_g6_0 g3_g6_0 k3_g6_1 g3_g6_1 k3_g6_2 g3_g6_2 k3_g6_3 g3_g6_3 B3 z3; intro f hf; have u3 : f 3 = (.int .i64 H) := (by rw [← hf]; rfl); clear hf; rintro w' ⟨h0, h1, h2, h3, h4, h5, h6, h7, h8, h9, h10, h11, h12, h13, h14, h15⟩; go_simp; try exact IntWalk.i64_in _ (by omega)
  refine obe_val (by rfl) ?_ ?_
  · clear k3_b1_0 g3_b1_0 k3_b1_1 g3_b1_1 k3_b1_2 g3_b1_2 k3_b1_3 g3_b1_3 k3_g6_0 g3_g6_0 k3_g6_1 g3_g6_1 k3_g6_2 g3_g6_2 k3_g6_3 g3_g6_3 B3 z3; intro f hf; have u47 : f 47 = (.int .i64 H) := (by rw [← hf]; rfl); clear hf; rintro w' ⟨h0, h1, h2, h3, h4, h5, h6, h7, h8, h9, h10, h11, h12, h13, h14, h15⟩; go_simp; try exact IntWalk.i64_in _ (by omega)
  refine obe_val (by rfl) ?_ ?_
  · clear k3_b1_0 g3_b1_0 k3_b1_1 g3_b1_1 k3_b1_2 g3_b1_2 k3_b1_3 g3_b1_3 k3_g6_0 g3_g6_0 k3_g6_1 g3_g6_1 k3_g6_2 g3_g6_2 k3_g6_3 g3_g6_3 B3 z3; intro f hf; have u46 : f 46 = (.bool true) := (by rw [← hf]; rfl); have u48 : f 48 = (.bool true) := (by rw [← hf]; rfl); clear hf; rintro w' ⟨h0, h1, h2, h3, h4, h5, h6, h7, h8, h9, h10, h11, h12, h13, h14, h15⟩; go_simp; try exact IntWalk.i64_in _ (by omega)
  refine obe_val (by rfl) ?_ ?_
  · clear k3_b1_0 g3_b1_0 k3_b1_1 g3_b1_1 k3_b1_2 g3_b1_2 k3_b1_3 g3_b1_3 k3_g6_0 g3_g6_0 k3_g6_1 g3_g6_1 k3_g6_2 g3_g6_2 k3_g6_3 g3_g6_3 B3 z3; intro f hf; have u49 : f 49 = (.bool true) := (by rw [← hf]; rfl); clear hf; rintro w' ⟨h0, h1, h2, h3, h4, h5, h6, h7, h8, h9, h10, h11, h12, h13, h14, h15⟩; go_simp; try exact IntWalk.i64_in _ (by omega)
  refine obe_val (by rfl) ?_ ?_
  · clear k3_b1_0 g3_b1_0 k3_b1_1 g3_b1_1 k3_b1_2 g3_b1_2 k3_b1_3 g3_b1_3 k3_g6_0 g3_g6_0 k3_g6_1 g3_g6_1 k3_g6_2 g3_g6_2 k3_g6_3 g3_g6_3 B3 z3; intro f hf; have u8 : f 8 = (.bool false) := (by rw [← hf]; rfl); clear hf; rintro w' ⟨h0, h1, h2, h3, h4, h5, h6, h7, h8, h9, h10, h11, h12, h13, h14, h15⟩; go_simp; try exact IntWalk.i64_in _ (by omega)
  refine obe_val (by rfl) ?_ ?_
  · clear k3_b1_0 g3_b1_0 k3_b1_1 g3_b1_1 k3_b1_2 g3_b1_2 k3_b1_3 g3_b1_3 k3_g6_0 g3_g6_0 k3_g6_1 g3_g6_1 k3_g6_2 g3_g6_2 k3_g6_3 g3_g6_3 B3 z3; intro f hf; have u4 : f 4 = (.int .i64 s) := (by rw [← hf]; rfl); clear hf; rintro w' ⟨h0, h1, h2, h3, h4, h5, h6, h7, h8, h9, h10, h11, h12, h13, h14, h15⟩; go_simp; try exact IntWalk.i64_in _ (by omega)
  refine obe_val (by rfl) ?_ ?_
  · clear k3_b1_0 g3_b1_0 k3_b1_1 g3_b1_1 k3_b1_2 g3_b1_2 k3_b1_3 g3_b1_3 k3_g6_0 g3_g6_0 k3_g6_1 g3_g6_1 k3_g6_2 g3_g6_2 k3_g6_3 g3_g6_3 B3 z3; intro f hf; have u52 : f 52 = (.int .i64 s) := (by rw [← hf]; rfl); clear hf; rintro w' ⟨h0, h1, h2, h3, h4, h5, h6, h7, h8, h9, h10, h11, h12, h13, h14, h15⟩; go_simp; try exact IntWalk.i64_in _ (by omega)
  refine obe_val (by rfl) ?_ ?_
  · clear k3_b1_0 g3_b1_0 k3_b1_1 g3_b1_1 k3_b1_2 g3_b1_2 k3_b1_3 g3_b1_3 k3_g6_0 g3_g6_0 k3_g6_1 g3_g6_1 k3_g6_2 g3_g6_2 k3_g6_3 g3_g6_3 B3 z3; intro f hf; have u51 : f 51 = (.bool false) := (by rw [← hf]; rfl); have u53 : f 53 = (.bool false) := (by rw [← hf]; rfl); clear hf; rintro w' ⟨h0, h1, h2, h3, h4, h5, h6, h7, h8, h9, h10, h11, h12, h13, h14, h15⟩; go_simp; try exact IntWalk.i64_in _ (by omega)
  refine obe_val (by rfl) ?_ ?_
  · clear k3_b1_0 g3_b1_0 k3_b1_1 g3_b1_1 k3_b1_2 g3_b1_2 k3_b1_3 g3_b1_3 k3_g6_0 g3_g6_0 k3_g6_1 g3_g6_1 k3_g6_2 g3_g6_2 k3_g6_3 g3_g6_3 B3 z3; intro f hf; have u50 : f 50 = (.bool true) := (by rw [← hf]; rfl); have u54 : f 54 = (.bool true) := (by rw [← hf]; rfl); clear hf; rintro w' ⟨h0, h1, h2, h3, h4, h5, h6, h7, h8, h9, h10, h11, h12, h13, h14, h15⟩; go_simp; try exact IntWalk.i64_in _ (by omega)
  refine obe_val (by rfl) ?_ ?_
  · clear k3_b1_0 g3_b1_0 k3_b1_1 g3_b1_1 k3_b1_2 g3_b1_2 k3_b1_3 g3_b1_3 k3_g6_0 g3_g6_0 k3_g6_1 g3_g6_1 k3_g6_2 g3_g6_2 k3_g6_3 g3_g6_3 B3 z3; intro f hf; have u55 : f 55 = (.bool true) := (by rw [← hf]; rfl); clear hf; rintro w' ⟨h0, h1, h2, h3, h4, h5, h6, h7, h8, h9, h10, h11, h12, h13, h14, h15⟩; go_simp; try exact IntWalk.i64_in _ (by omega)
  refine obe_val (by rfl) ?_ ?_
  · clear k3_b1_0 g3_b1_0 k3_b1_1 g3_b1_1 k3_b1_2 g3_b1_2 k3_b1_3 g3_b1_3 k3_g6_0 g3_g6_0 k3_g6_1 g3_g6_1 k3_g6_2 g3_g6_2 k3_g6_3 g3_g6_3 B3 z3; intro f hf; have u8 : f 8 = (.bool false) := (by rw [← hf]; rfl); clear hf; rintro w' ⟨h0, h1, h2, h3, h4, h5, h6, h7, h8, h9, h10, h11, h12, h13, h14, h15⟩; go_simp; try exact IntWalk.i64_in _ (by omega)
  refine obe_val (by rfl) ?_ ?_
  · clear k3_b1_0 g3_b1_0 k3_b1_1 g3_b1_1 k3_b1_2 g3_b1_2 k3_b1_3 g3_b1_3 k3_g6_0 g3_g6_0 k3_g6_1 g3_g6_1 k3_g6_2 g3_g6_2 k3_g6_3 g3_g6_3 B3 z3; intro f hf; have u57 : f 57 = (.bool false) := (by rw [← hf]; rfl); clear hf; rintro w' ⟨h0, h1, h2, h3, h4, h5, h6, h7, h8, h9, h10, h11, h12, h13, h14, h15⟩; go_simp; try exact IntWalk.i64_in _ (by omega)
  refine obe_val (by rfl) ?_ ?_
  · clear k3_b1_0 g3_b1_0 k3_b1_1 g3_b1_1 k3_b1_2 g3_b1_2 k3_b1_3 g3_b1_3 k3_g6_0 g3_g6_0 k3_g6_1 g3_g6_1 k3_g6_2 g3_g6_2 k3_g6_3 g3_g6_3 B3 z3; intro f hf; have u58 : f 58 = (.bool true) := (by rw [← hf]; rfl); clear hf; rintro w' ⟨h0, h1, h2, h3, h4, h5, h6, h7, h8, h9, h10, h11, h12, h13, h14, h15⟩; go_simp; try exact IntWalk.i64_in _ (by omega)
  refine obe_skip (by rfl) ?_
  refine obe_skip (by rfl) ?_
  refine obe_skip (by rfl) ?_
  refine obe_skip (by rfl) ?_
  refine obe_skip (by rfl) ?_
  refine obe_val (by rfl) ?_ ?_
  · clear k3_b1_0 g3_b1_0 k3_b1_1 g3_b1_1 k3_b1_2 g3_b1_2 k3_b1_3 g3_b1_3 k3_g6_0 g3_g6_0 k3_g6_1 g3_g6_1 k3_g6_2 g3_g6_2 k3_g6_3 g3_g6_3 B3 z3; intro f hf; have u59 : f 59 = (.bool true) := (by rw [← hf]; rfl); clear hf; rintro w' ⟨h0, h1, h2, h3, h4, h5, h6, h7, h8, h9, h10, h11, h12, h13, h14, h15⟩; go_simp; try exact IntWalk.i64_in _ (by omega)
  refine obe_val (by rfl) ?_ ?_
  · clear k3_b1_0 g3_b1_0 k3_b1_1 g3_b1_1 k3_b1_2 g3_b1_2 k3_b1_3 g3_b1_3 k3_g6_0 g3_g6_0 k3_g6_1 g3_g6_1 k3_g6_2 g3_g6_2 k3_g6_3 g3_g6_3 B3 z3; intro f hf; have u56 : f 56 = (.bool true) := (by rw [← hf]; rfl); have u65 : f 65 = (.bool true) := (by rw [← hf]; rfl); clear hf; rintro w' ⟨h0, h1, h2, h3, h4, h5, h6, h7, h8, h9, h10, h11, h12, h13, h14, h15⟩; go_simp; try exact IntWalk.i64_in _ (by omega)
  refine obe_val (by rfl) ?_ ?_
  · clear k3_b1_0 g3_b1_0 k3_b1_1 g3_b1_1 k3_b1_2 g3_b1_2 k3_b1_3 g3_b1_3 k3_g6_0 g3_g6_0 k3_g6_1 g3_g6_1 k3_g6_2 g3_g6_2 k3_g6_3 g3_g6_3 B3 z3; intro f hf; have u66 : f 66 = (.bool true) := (by rw [← hf]; rfl); clear hf; rintro w' ⟨h0, h1, h2, h3, h4, h5, h6, h7, h8, h9, h10, h11, h12, h13, h14, h15⟩; go_simp; try exact IntWalk.i64_in _ (by omega)
  refine obe_call (by rfl) ?_ ?_ ?_
  · clear k3_b1_0 g3_b1_0 k3_b1_1 g3_b1_1 k3_b1_2 g3_b1_2 k3_b1_3 g3_b1_3 k3_g6_0 g3_g6_0 k3_g6_1 g3_g6_1 k3_g6_2 g3_g6_2 k3_g6_3 g3_g6_3 B3 z3; intro f hf; clear hf; intro w' _; simp only [execOp, resolve, invoke, rhoF_tmp, rhoF_func, rhoF_const, List.map_toArray, List.map_cons, List.map_nil]; go_simp
  · clear k3_b1_0 g3_b1_0 k3_b1_1 g3_b1_1 k3_b1_2 g3_b1_2 k3_b1_3 g3_b1_3 k3_g6_0 g3_g6_0 k3_g6_1 g3_g6_1 k3_g6_2 g3_g6_2 k3_g6_3 g3_g6_3 B3 z3; rintro w' ⟨h0, h1, h2, h3, h4, h5, h6, h7, h8, h9, h10, h11, h12, h13, h14, h15⟩; exact cex_any _
  refine obe_val (by rfl) ?_ ?_
  · clear k3_b1_0 g3_b1_0 k3_b1_1 g3_b1_1 k3_b1_2 g3_b1_2 k3_b1_3 g3_b1_3 k3_g6_0 g3_g6_0 k3_g6_1 g3_g6_1 k3_g6_2 g3_g6_2 k3_g6_3 g3_g6_3 B3 z3; intro f hf; have u67 : f 67 = (.bool true) := (by rw [← hf]; rfl); have u68 : f 68 = (.bool true) := (by rw [← hf]; rfl); clear hf; rintro w' ⟨h0, h1, h2, h3, h4, h5, h6, h7, h8, h9, h10, h11, h12, h13, h14, h15⟩; go_simp; try exact IntWalk.i64_in _ (by omega)
  refine obe_val (by rfl) ?_ ?_
  · clear k3_b1_0 g3_b1_0 k3_b1_1 g3_b1_1 k3_b1_2 g3_b1_2 k3_b1_3 g3_b1_3 k3_g6_0 g3_g6_0 k3_g6_1 g3_g6_1 k3_g6_2 g3_g6_2 k3_g6_3 g3_g6_3 B3 z3; intro f hf; have u69 : f 69 = (.bool true) := (by rw [← hf]; rfl); clear hf; rintro w' ⟨h0, h1, h2, h3, h4, h5, h6, h7, h8, h9, h10, h11, h12, h13, h14, h15⟩; go_simp; try exact IntWalk.i64_in _ (by omega)
  refine obe_nil ?_
  rintro w4 ⟨h0, h1, h2, h3, h4, h5, h6, h7, h8, h9, h10, h11, h12, h13, h14, h15⟩ hb4 hF
  (try simp only [List.nil_append, List.append_nil, List.cons_append] at hF)
  simp only [puts, putD, Act.put, List.setIfInBounds_toArray, List.set_cons_zero, List.set_cons_succ]
  clear hF
  have k4_b1_0 := bcs hb4 k3_b1_0
  have g4_b1_0 := bfs hb4 k3_b1_0 g3_b1_0
  have k4_b1_1 := bcs hb4 k3_b1_1
  have g4_b1_1 := bfs hb4 k3_b1_1 g3_b1_1
  have k4_b1_2 := bcs hb4 k3_b1_2
  have g4_b1_2 := bfs hb4 k3_b1_2 g3_b1_2
  have k4_b1_3 := bcs hb4 k3_b1_3
  have g4_b1_3 := bfs hb4 k3_b1_3 g3_b1_3
  have k4_g6_0 := bcs hb4 k3_g6_0
  have g4_g6_0 := bfs hb4 k3_g6_0 g3_g6_0
  have k4_g6_1 := bcs hb4 k3_g6_1
  have g4_g6_1 := bfs hb4 k3_g6_1 g3_g6_1
  have k4_g6_2 := bcs hb4 k3_g6_2
  have g4_g6_2 := bfs hb4 k3_g6_2 g3_g6_2
  have k4_g6_3 := bcs hb4 k3_g6_3
  have g4_g6_3 := bfs hb4 k3_g6_3 g3_g6_3
  clear h0 h1 h2 h3 h4 h5 h6 h7 h8 h9 h10 h11 h12 h13 h14 h15
  have B4 := bel_step B3 hb4
  have z4 := Nat.le_trans z3 hb4.size
  clear hb4
  (try clear B3)
  (try clear z3)
  (try clear k3_b1_0)
  (try clear g3_b1_0)
  (try clear k3_b1_1)
  (try clear g3_b1_1)
  (try clear k3_b1_2)
  (try clear g3_b1_2)
  (try clear k3_b1_3)
  (try clear g3_b1_3)
  (try clear k3_g6_0)
  (try clear g3_g6_0)
  (try clear k3_g6_1)
  (try clear g3_g6_1)
  (try clear k3_g6_2)
  (try clear g3_g6_2)
  (try clear k3_g6_3)
  (try clear g3_g6_3)
  (try clear q3_b1)
  (try clear x3_b1)
  (try clear y3_b1)
  (try clear q3_g6)
  (try clear x3_g6)
  (try clear y3_g6)
  have q4_b1 : w.heap.size < w4.heap.size := qlt k4_b1_0
  have x4_b1 : ¬ w.heap.size = w4.heap.size := qne k4_b1_0
  have y4_b1 : ¬ w4.heap.size = w.heap.size := fun h => qne k4_b1_0 h.symm
  have q4_g6 : w2.heap.size < w4.heap.size := qlt k4_g6_0
  have x4_g6 : ¬ w2.heap.size = w4.heap.size := qne k4_g6_0
  have y4_g6 : ¬ w4.heap.size = w2.heap.size := fun h => qne k4_g6_0 h.symm
  unfold wpList
  go_wp2
  go_ret
  refine ⟨rfl, ?_⟩
  repeat (first | with_reducible exact Below.refl _ _ | with_reducible exact B4 | with_reducible apply below_drewN | with_reducible apply Below.drew | (with_reducible refine Below.alloc ?_ (by first | (simp; done) | (simp; omega) | omega) _) | (with_reducible refine Below.setCell ?_ (by first | (simp; done) | (simp; omega) | omega) _))

theorem colorHSLRoundTrip_w (r g b a : Int) (r0 : 0 ≤ r) (r1 : r ≤ 255) (g0 : 0 ≤ g) (g1 : g ≤ 255) (b0 : 0 ≤ b) (b1 : b ≤ 255) (a0 : 0 ≤ a) (a1 : a ≤ 255) (w : World) :
    Calls Try.prog 7 #[.agg #[.int .u8 r, .int .u8 g, .int .u8 b, .int .u8 a]] w fun e w' => e = .returned (.bool true) ∧ Below w.heap.size w w' := by
  by_cases h1 : r = g
  · subst h1
    by_cases h2 : r = b
    · subst h2
      exact colorHSL_gray r a r0 r1 a0 a1 w
    · exact colorHSL_gb r b a r0 r1 b0 b1 a0 a1 h2 w
  · exact colorHSL_rg r g b a r0 r1 g0 g1 b0 b1 a0 a1 h1 w
end Go.Proofs.Ytfaiogomhjmhhaa
