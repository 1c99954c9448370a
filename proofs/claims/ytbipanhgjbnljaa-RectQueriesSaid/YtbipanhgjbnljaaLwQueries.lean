import Derived.Test.YtbipanhgjbnljaaRex
import Derived.WalkKit
import Derived.WalkSpells
import Derived.WalkLawsBesides
import Derived.Lib.Hide
import Derived.Below
import Derived.Deep.QuietTactic
import Derived.BigQuiet
import Derived.Deep.RegionHeld3
import Derived.Deep.DrawnRows
import Derived.Deep.DeepFit
import Derived.IntWalk
namespace Go.Proofs.Ytbipanhgjbnljaa
open Go.RowKit
set_option linter.unusedVariables false
set_option linter.unusedSimpArgs false
attribute [local go_sem ↓] Go.wp_at_zero Go.wp_at_succ
attribute [local go_sem] rhoF_tmp rhoF_const rhoF_global rhoF_func

set_option maxRecDepth 20000 in
set_option maxHeartbeats 8000000 in
theorem rectQueries_w (a b c d x y : Int) (w : World) :
    Calls Try.prog 3 #[.agg #[.int .i64 a, .int .i64 b, .int .i64 c, .int .i64 d], .int .i64 x, .int .i64 y] w fun e w' => e = .returned (.bool true) ∧ Below w.heap.size w w' := by
  go_enter Try.func3, Try.ntmps3
  go_wp2
  refine wp_region_env (fun w' => w'.cell? ⟨w.heap.size, 0, none⟩ = some (.int .i64 a) ∧ w'.frozen? ⟨w.heap.size, 0, none⟩ = false ∧ w'.cell? ⟨w.heap.size, 1, none⟩ = some (.int .i64 b) ∧ w'.frozen? ⟨w.heap.size, 1, none⟩ = false ∧ w'.cell? ⟨w.heap.size, 2, none⟩ = some (.int .i64 c) ∧ w'.frozen? ⟨w.heap.size, 2, none⟩ = false ∧ w'.cell? ⟨w.heap.size, 3, none⟩ = some (.int .i64 d) ∧ w'.frozen? ⟨w.heap.size, 3, none⟩ = false) (fun W => W.cell? ⟨w.heap.size, 0, none⟩ = some (.int .i64 a) ∧ W.frozen? ⟨w.heap.size, 0, none⟩ = false ∧ W.cell? ⟨w.heap.size, 1, none⟩ = some (.int .i64 b) ∧ W.frozen? ⟨w.heap.size, 1, none⟩ = false ∧ W.cell? ⟨w.heap.size, 2, none⟩ = some (.int .i64 c) ∧ W.frozen? ⟨w.heap.size, 2, none⟩ = false ∧ W.cell? ⟨w.heap.size, 3, none⟩ = some (.int .i64 d) ∧ W.frozen? ⟨w.heap.size, 3, none⟩ = false ∧ Below w.heap.size w W ∧ w.heap.size + 1 ≤ W.heap.size) 52 58 [.val (.agg #[.int .i64 a, .int .i64 b, .int .i64 c, .int .i64 d]), .call 8 #[.agg #[.int .i64 a, .int .i64 b, .int .i64 c, .int .i64 d]] (.bool (vR a b c d)), .val (.agg #[.int .i64 a, .int .i64 b, .int .i64 c, .int .i64 d]), .call 9 #[.agg #[.int .i64 a, .int .i64 b, .int .i64 c, .int .i64 d]] (.bool (vR a b c d)), .val (.bool true), .val (.bool true), .val (.agg #[.int .i64 a, .int .i64 b, .int .i64 c, .int .i64 d]), .call 10 #[.agg #[.int .i64 a, .int .i64 b, .int .i64 c, .int .i64 d]] (.bool (eR a b c d)), .val (.agg #[.int .i64 a, .int .i64 b, .int .i64 c, .int .i64 d]), .call 11 #[.agg #[.int .i64 a, .int .i64 b, .int .i64 c, .int .i64 d]] (.bool (eR a b c d)), .val (.bool true), .val (.bool true), .val (.bool true), .val (.agg #[.int .i64 a, .int .i64 b, .int .i64 c, .int .i64 d]), .call 12 #[.agg #[.int .i64 a, .int .i64 b, .int .i64 c, .int .i64 d]] (.agg #[.int .i64 (cn (eR a b c d) a), .int .i64 (cn (eR a b c d) b), .int .i64 (cn (eR a b c d) c), .int .i64 (cn (eR a b c d) d)]), .val (.agg #[.int .i64 a, .int .i64 b, .int .i64 c, .int .i64 d]), .call 13 #[.agg #[.int .i64 a, .int .i64 b, .int .i64 c, .int .i64 d]] (.agg #[.int .i64 (cn (eR a b c d) a), .int .i64 (cn (eR a b c d) b), .int .i64 (cn (eR a b c d) c), .int .i64 (cn (eR a b c d) d)]), .val (.bool true), .val (.bool true), .val (.bool true), .val (.agg #[.int .i64 a, .int .i64 b, .int .i64 c, .int .i64 d]), .call 14 #[.agg #[.int .i64 a, .int .i64 b, .int .i64 c, .int .i64 d]] (.int .i64 ((cn (eR a b c d) c - cn (eR a b c d) a) * (cn (eR a b c d) d - cn (eR a b c d) b))), .val (.agg #[.int .i64 a, .int .i64 b, .int .i64 c, .int .i64 d]), .call 15 #[.agg #[.int .i64 a, .int .i64 b, .int .i64 c, .int .i64 d]] (.int .i64 ((cn (eR a b c d) c - cn (eR a b c d) a) * (cn (eR a b c d) d - cn (eR a b c d) b))), .val (.bool true), .val (.bool true), .val (.bool true), .val (.agg #[.int .i64 a, .int .i64 b, .int .i64 c, .int .i64 d]), .val (.int .i64 x), .val (.int .i64 y), .call 16 #[.agg #[.int .i64 a, .int .i64 b, .int .i64 c, .int .i64 d], .int .i64 x, .int .i64 y] (.bool (ctB a b c d x y)), .val (.agg #[.int .i64 a, .int .i64 b, .int .i64 c, .int .i64 d]), .val (.int .i64 x), .val (.int .i64 y), .call 17 #[.agg #[.int .i64 a, .int .i64 b, .int .i64 c, .int .i64 d], .int .i64 x, .int .i64 y] (.bool (ctB a b c d x y)), .val (.bool true), .val (.bool true), .val (.bool true), .val (.agg #[.int .i64 a, .int .i64 b, .int .i64 c, .int .i64 d]), .val (.int .i64 x), .val (.int .i64 y), .call 18 #[.agg #[.int .i64 a, .int .i64 b, .int .i64 c, .int .i64 d], .int .i64 x, .int .i64 y] (.int .i64 (pxV a b c d x y)), .val (.agg #[.int .i64 a, .int .i64 b, .int .i64 c, .int .i64 d]), .val (.int .i64 x), .val (.int .i64 y), .call 19 #[.agg #[.int .i64 a, .int .i64 b, .int .i64 c, .int .i64 d], .int .i64 x, .int .i64 y] (.int .i64 (pxV a b c d x y)), .val (.bool true), .val (.bool true), .val (.bool true), .call 20 #[] (.bool true), .val (.bool true), .val (.bool true)] (by kernel_rfl) (by kernel_rfl) rfl (by kernel_rfl) (by rintro w1 w2 ⟨h0, h1, h2, h3, h4, h5, h6, h7⟩ hb; exact ⟨bcs hb h0, bfs hb h0 h1, bcs hb h2, bfs hb h2 h3, bcs hb h4, bfs hb h4 h5, bcs hb h6, bfs hb h6 h7⟩) ⟨by first | with_reducible assumption | go_simp, by first | with_reducible assumption | go_simp, by first | with_reducible assumption | go_simp, by first | with_reducible assumption | go_simp, by first | with_reducible assumption | go_simp, by first | with_reducible assumption | go_simp, by first | with_reducible assumption | go_simp, by first | with_reducible assumption | go_simp, by repeat (first | with_reducible exact Below.refl _ _ | fail | with_reducible apply below_drewN | with_reducible apply Below.drew | (with_reducible refine Below.alloc ?_ (by first | (simp; done) | (simp; omega) | omega) _) | (with_reducible refine Below.setCell ?_ (by first | (simp; done) | (simp; omega) | omega) _)), by first | with_reducible assumption | (simp; done) | (simp; omega)⟩ ?_ ?_
  · rintro W ⟨k1_b3_0, g1_b3_0, k1_b3_1, g1_b3_1, k1_b3_2, g1_b3_2, k1_b3_3, g1_b3_3, B1, z1⟩; exact ⟨k1_b3_0, g1_b3_0, k1_b3_1, g1_b3_1, k1_b3_2, g1_b3_2, k1_b3_3, g1_b3_3⟩
  rintro w1 ⟨k1_b3_0, g1_b3_0, k1_b3_1, g1_b3_1, k1_b3_2, g1_b3_2, k1_b3_3, g1_b3_3, B1, z1⟩ gg
  simp only [List.take_succ_cons, List.take_zero, List.drop_succ_cons, List.drop_zero, List.cons_append, List.nil_append, List.append_nil]
  refine obe_val (by rfl) ?_ ?_
  · clear k1_b3_0 g1_b3_0 k1_b3_1 g1_b3_1 k1_b3_2 g1_b3_2 k1_b3_3 g1_b3_3 B1 z1; intro f hf; have u3 : f 3 = (.pointer (some ⟨w.heap.size, 0, none⟩)) := (by rw [← hf]; rfl); clear hf; rintro w' ⟨h0, h1, h2, h3, h4, h5, h6, h7⟩; go_simp; try exact IntWalk.i64_in _ (by omega)
  refine obe_call (by rfl) ?_ ?_ ?_
  · clear k1_b3_0 g1_b3_0 k1_b3_1 g1_b3_1 k1_b3_2 g1_b3_2 k1_b3_3 g1_b3_3 B1 z1; intro f hf; have u7 : f 7 = (.agg #[.int .i64 a, .int .i64 b, .int .i64 c, .int .i64 d]) := (by rw [← hf]; rfl); clear hf; intro w' _; simp only [execOp, resolve, invoke, rhoF_tmp, rhoF_func, rhoF_const, u7, List.map_toArray, List.map_cons, List.map_nil]; go_simp
  · clear k1_b3_0 g1_b3_0 k1_b3_1 g1_b3_1 k1_b3_2 g1_b3_2 k1_b3_3 g1_b3_3 B1 z1; rintro w' ⟨h0, h1, h2, h3, h4, h5, h6, h7⟩; exact valid_any a b c d _
  refine obe_val (by rfl) ?_ ?_
  · clear k1_b3_0 g1_b3_0 k1_b3_1 g1_b3_1 k1_b3_2 g1_b3_2 k1_b3_3 g1_b3_3 B1 z1; intro f hf; have u3 : f 3 = (.pointer (some ⟨w.heap.size, 0, none⟩)) := (by rw [← hf]; rfl); clear hf; rintro w' ⟨h0, h1, h2, h3, h4, h5, h6, h7⟩; go_simp; try exact IntWalk.i64_in _ (by omega)
  refine obe_call (by rfl) ?_ ?_ ?_
  · clear k1_b3_0 g1_b3_0 k1_b3_1 g1_b3_1 k1_b3_2 g1_b3_2 k1_b3_3 g1_b3_3 B1 z1; intro f hf; have u9 : f 9 = (.agg #[.int .i64 a, .int .i64 b, .int .i64 c, .int .i64 d]) := (by rw [← hf]; rfl); clear hf; intro w' _; simp only [execOp, resolve, invoke, rhoF_tmp, rhoF_func, rhoF_const, u9, List.map_toArray, List.map_cons, List.map_nil]; go_simp
  · clear k1_b3_0 g1_b3_0 k1_b3_1 g1_b3_1 k1_b3_2 g1_b3_2 k1_b3_3 g1_b3_3 B1 z1; rintro w' ⟨h0, h1, h2, h3, h4, h5, h6, h7⟩; exact rvalid_any a b c d _
  refine obe_val (by rfl) ?_ ?_
  · clear k1_b3_0 g1_b3_0 k1_b3_1 g1_b3_1 k1_b3_2 g1_b3_2 k1_b3_3 g1_b3_3 B1 z1; intro f hf; have u8 : f 8 = (.bool (vR a b c d)) := (by rw [← hf]; rfl); have u10 : f 10 = (.bool (vR a b c d)) := (by rw [← hf]; rfl); clear hf; rintro w' ⟨h0, h1, h2, h3, h4, h5, h6, h7⟩; go_simp; try exact IntWalk.i64_in _ (by omega)
  refine obe_val (by rfl) ?_ ?_
  · clear k1_b3_0 g1_b3_0 k1_b3_1 g1_b3_1 k1_b3_2 g1_b3_2 k1_b3_3 g1_b3_3 B1 z1; intro f hf; have u11 : f 11 = (.bool true) := (by rw [← hf]; rfl); clear hf; rintro w' ⟨h0, h1, h2, h3, h4, h5, h6, h7⟩; go_simp; try exact IntWalk.i64_in _ (by omega)
  refine obe_val (by rfl) ?_ ?_
  · clear k1_b3_0 g1_b3_0 k1_b3_1 g1_b3_1 k1_b3_2 g1_b3_2 k1_b3_3 g1_b3_3 B1 z1; intro f hf; have u3 : f 3 = (.pointer (some ⟨w.heap.size, 0, none⟩)) := (by rw [← hf]; rfl); clear hf; rintro w' ⟨h0, h1, h2, h3, h4, h5, h6, h7⟩; go_simp; try exact IntWalk.i64_in _ (by omega)
  refine obe_call (by rfl) ?_ ?_ ?_
  · clear k1_b3_0 g1_b3_0 k1_b3_1 g1_b3_1 k1_b3_2 g1_b3_2 k1_b3_3 g1_b3_3 B1 z1; intro f hf; have u13 : f 13 = (.agg #[.int .i64 a, .int .i64 b, .int .i64 c, .int .i64 d]) := (by rw [← hf]; rfl); clear hf; intro w' _; simp only [execOp, resolve, invoke, rhoF_tmp, rhoF_func, rhoF_const, u13, List.map_toArray, List.map_cons, List.map_nil]; go_simp
  · clear k1_b3_0 g1_b3_0 k1_b3_1 g1_b3_1 k1_b3_2 g1_b3_2 k1_b3_3 g1_b3_3 B1 z1; rintro w' ⟨h0, h1, h2, h3, h4, h5, h6, h7⟩; exact empty_any a b c d _
  refine obe_val (by rfl) ?_ ?_
  · clear k1_b3_0 g1_b3_0 k1_b3_1 g1_b3_1 k1_b3_2 g1_b3_2 k1_b3_3 g1_b3_3 B1 z1; intro f hf; have u3 : f 3 = (.pointer (some ⟨w.heap.size, 0, none⟩)) := (by rw [← hf]; rfl); clear hf; rintro w' ⟨h0, h1, h2, h3, h4, h5, h6, h7⟩; go_simp; try exact IntWalk.i64_in _ (by omega)
  refine obe_call (by rfl) ?_ ?_ ?_
  · clear k1_b3_0 g1_b3_0 k1_b3_1 g1_b3_1 k1_b3_2 g1_b3_2 k1_b3_3 g1_b3_3 B1 z1; intro f hf; have u15 : f 15 = (.agg #[.int .i64 a, .int .i64 b, .int .i64 c, .int .i64 d]) := (by rw [← hf]; rfl); clear hf; intro w' _; simp only [execOp, resolve, invoke, rhoF_tmp, rhoF_func, rhoF_const, u15, List.map_toArray, List.map_cons, List.map_nil]; go_simp
  · clear k1_b3_0 g1_b3_0 k1_b3_1 g1_b3_1 k1_b3_2 g1_b3_2 k1_b3_3 g1_b3_3 B1 z1; rintro w' ⟨h0, h1, h2, h3, h4, h5, h6, h7⟩; exact rempty_any a b c d _
  refine obe_val (by rfl) ?_ ?_
  · clear k1_b3_0 g1_b3_0 k1_b3_1 g1_b3_1 k1_b3_2 g1_b3_2 k1_b3_3 g1_b3_3 B1 z1; intro f hf; have u14 : f 14 = (.bool (eR a b c d)) := (by rw [← hf]; rfl); have u16 : f 16 = (.bool (eR a b c d)) := (by rw [← hf]; rfl); clear hf; rintro w' ⟨h0, h1, h2, h3, h4, h5, h6, h7⟩; go_simp; try exact IntWalk.i64_in _ (by omega)
  refine obe_val (by rfl) ?_ ?_
  · clear k1_b3_0 g1_b3_0 k1_b3_1 g1_b3_1 k1_b3_2 g1_b3_2 k1_b3_3 g1_b3_3 B1 z1; intro f hf; have u12 : f 12 = (.bool true) := (by rw [← hf]; rfl); have u17 : f 17 = (.bool true) := (by rw [← hf]; rfl); clear hf; rintro w' ⟨h0, h1, h2, h3, h4, h5, h6, h7⟩; go_simp; try exact IntWalk.i64_in _ (by omega)
  refine obe_val (by rfl) ?_ ?_
  · clear k1_b3_0 g1_b3_0 k1_b3_1 g1_b3_1 k1_b3_2 g1_b3_2 k1_b3_3 g1_b3_3 B1 z1; intro f hf; have u18 : f 18 = (.bool true) := (by rw [← hf]; rfl); clear hf; rintro w' ⟨h0, h1, h2, h3, h4, h5, h6, h7⟩; go_simp; try exact IntWalk.i64_in _ (by omega)
  refine obe_val (by rfl) ?_ ?_
  · clear k1_b3_0 g1_b3_0 k1_b3_1 g1_b3_1 k1_b3_2 g1_b3_2 k1_b3_3 g1_b3_3 B1 z1; intro f hf; have u3 : f 3 = (.pointer (some ⟨w.heap.size, 0, none⟩)) := (by rw [← hf]; rfl); clear hf; rintro w' ⟨h0, h1, h2, h3, h4, h5, h6, h7⟩; go_simp; try exact IntWalk.i64_in _ (by omega)
  refine obe_call (by rfl) ?_ ?_ ?_
  · clear k1_b3_0 g1_b3_0 k1_b3_1 g1_b3_1 k1_b3_2 g1_b3_2 k1_b3_3 g1_b3_3 B1 z1; intro f hf; have u20 : f 20 = (.agg #[.int .i64 a, .int .i64 b, .int .i64 c, .int .i64 d]) := (by rw [← hf]; rfl); clear hf; intro w' _; simp only [execOp, resolve, invoke, rhoF_tmp, rhoF_func, rhoF_const, u20, List.map_toArray, List.map_cons, List.map_nil]; go_simp
  · clear k1_b3_0 g1_b3_0 k1_b3_1 g1_b3_1 k1_b3_2 g1_b3_2 k1_b3_3 g1_b3_3 B1 z1; rintro w' ⟨h0, h1, h2, h3, h4, h5, h6, h7⟩; exact canon_any a b c d _
  refine obe_val (by rfl) ?_ ?_
  · clear k1_b3_0 g1_b3_0 k1_b3_1 g1_b3_1 k1_b3_2 g1_b3_2 k1_b3_3 g1_b3_3 B1 z1; intro f hf; have u3 : f 3 = (.pointer (some ⟨w.heap.size, 0, none⟩)) := (by rw [← hf]; rfl); clear hf; rintro w' ⟨h0, h1, h2, h3, h4, h5, h6, h7⟩; go_simp; try exact IntWalk.i64_in _ (by omega)
  refine obe_call (by rfl) ?_ ?_ ?_
  · clear k1_b3_0 g1_b3_0 k1_b3_1 g1_b3_1 k1_b3_2 g1_b3_2 k1_b3_3 g1_b3_3 B1 z1; intro f hf; have u22 : f 22 = (.agg #[.int .i64 a, .int .i64 b, .int .i64 c, .int .i64 d]) := (by rw [← hf]; rfl); clear hf; intro w' _; simp only [execOp, resolve, invoke, rhoF_tmp, rhoF_func, rhoF_const, u22, List.map_toArray, List.map_cons, List.map_nil]; go_simp
  · clear k1_b3_0 g1_b3_0 k1_b3_1 g1_b3_1 k1_b3_2 g1_b3_2 k1_b3_3 g1_b3_3 B1 z1; rintro w' ⟨h0, h1, h2, h3, h4, h5, h6, h7⟩; exact rcanon_any a b c d _
  refine obe_val (by rfl) ?_ ?_
  · clear k1_b3_0 g1_b3_0 k1_b3_1 g1_b3_1 k1_b3_2 g1_b3_2 k1_b3_3 g1_b3_3 B1 z1; intro f hf; have u21 : f 21 = (.agg #[.int .i64 (cn (eR a b c d) a), .int .i64 (cn (eR a b c d) b), .int .i64 (cn (eR a b c d) c), .int .i64 (cn (eR a b c d) d)]) := (by rw [← hf]; rfl); have u23 : f 23 = (.agg #[.int .i64 (cn (eR a b c d) a), .int .i64 (cn (eR a b c d) b), .int .i64 (cn (eR a b c d) c), .int .i64 (cn (eR a b c d) d)]) := (by rw [← hf]; rfl); clear hf; rintro w' ⟨h0, h1, h2, h3, h4, h5, h6, h7⟩; go_simp; try exact IntWalk.i64_in _ (by omega)
  refine obe_val (by rfl) ?_ ?_
  · clear k1_b3_0 g1_b3_0 k1_b3_1 g1_b3_1 k1_b3_2 g1_b3_2 k1_b3_3 g1_b3_3 B1 z1; intro f hf; have u19 : f 19 = (.bool true) := (by rw [← hf]; rfl); have u24 : f 24 = (.bool true) := (by rw [← hf]; rfl); clear hf; rintro w' ⟨h0, h1, h2, h3, h4, h5, h6, h7⟩; go_simp; try exact IntWalk.i64_in _ (by omega)
  refine obe_val (by rfl) ?_ ?_
  · clear k1_b3_0 g1_b3_0 k1_b3_1 g1_b3_1 k1_b3_2 g1_b3_2 k1_b3_3 g1_b3_3 B1 z1; intro f hf; have u25 : f 25 = (.bool true) := (by rw [← hf]; rfl); clear hf; rintro w' ⟨h0, h1, h2, h3, h4, h5, h6, h7⟩; go_simp; try exact IntWalk.i64_in _ (by omega)
  refine obe_val (by rfl) ?_ ?_
  · clear k1_b3_0 g1_b3_0 k1_b3_1 g1_b3_1 k1_b3_2 g1_b3_2 k1_b3_3 g1_b3_3 B1 z1; intro f hf; have u3 : f 3 = (.pointer (some ⟨w.heap.size, 0, none⟩)) := (by rw [← hf]; rfl); clear hf; rintro w' ⟨h0, h1, h2, h3, h4, h5, h6, h7⟩; go_simp; try exact IntWalk.i64_in _ (by omega)
  refine obe_call (by rfl) ?_ ?_ ?_
  · clear k1_b3_0 g1_b3_0 k1_b3_1 g1_b3_1 k1_b3_2 g1_b3_2 k1_b3_3 g1_b3_3 B1 z1; intro f hf; have u27 : f 27 = (.agg #[.int .i64 a, .int .i64 b, .int .i64 c, .int .i64 d]) := (by rw [← hf]; rfl); clear hf; intro w' _; simp only [execOp, resolve, invoke, rhoF_tmp, rhoF_func, rhoF_const, u27, List.map_toArray, List.map_cons, List.map_nil]; go_simp
  · clear k1_b3_0 g1_b3_0 k1_b3_1 g1_b3_1 k1_b3_2 g1_b3_2 k1_b3_3 g1_b3_3 B1 z1; rintro w' ⟨h0, h1, h2, h3, h4, h5, h6, h7⟩; exact area_any a b c d _
  refine obe_val (by rfl) ?_ ?_
  · clear k1_b3_0 g1_b3_0 k1_b3_1 g1_b3_1 k1_b3_2 g1_b3_2 k1_b3_3 g1_b3_3 B1 z1; intro f hf; have u3 : f 3 = (.pointer (some ⟨w.heap.size, 0, none⟩)) := (by rw [← hf]; rfl); clear hf; rintro w' ⟨h0, h1, h2, h3, h4, h5, h6, h7⟩; go_simp; try exact IntWalk.i64_in _ (by omega)
  refine obe_call (by rfl) ?_ ?_ ?_
  · clear k1_b3_0 g1_b3_0 k1_b3_1 g1_b3_1 k1_b3_2 g1_b3_2 k1_b3_3 g1_b3_3 B1 z1; intro f hf; have u29 : f 29 = (.agg #[.int .i64 a, .int .i64 b, .int .i64 c, .int .i64 d]) := (by rw [← hf]; rfl); clear hf; intro w' _; simp only [execOp, resolve, invoke, rhoF_tmp, rhoF_func, rhoF_const, u29, List.map_toArray, List.map_cons, List.map_nil]; go_simp
  · clear k1_b3_0 g1_b3_0 k1_b3_1 g1_b3_1 k1_b3_2 g1_b3_2 k1_b3_3 g1_b3_3 B1 z1; rintro w' ⟨h0, h1, h2, h3, h4, h5, h6, h7⟩; exact rarea_any a b c d _
  refine obe_val (by rfl) ?_ ?_
  · clear k1_b3_0 g1_b3_0 k1_b3_1 g1_b3_1 k1_b3_2 g1_b3_2 k1_b3_3 g1_b3_3 B1 z1; intro f hf; have u28 : f 28 = (.int .i64 ((cn (eR a b c d) c - cn (eR a b c d) a) * (cn (eR a b c d) d - cn (eR a b c d) b))) := (by rw [← hf]; rfl); have u30 : f 30 = (.int .i64 ((cn (eR a b c d) c - cn (eR a b c d) a) * (cn (eR a b c d) d - cn (eR a b c d) b))) := (by rw [← hf]; rfl); clear hf; rintro w' ⟨h0, h1, h2, h3, h4, h5, h6, h7⟩; go_simp; try exact IntWalk.i64_in _ (by omega)
  refine obe_val (by rfl) ?_ ?_
  · clear k1_b3_0 g1_b3_0 k1_b3_1 g1_b3_1 k1_b3_2 g1_b3_2 k1_b3_3 g1_b3_3 B1 z1; intro f hf; have u26 : f 26 = (.bool true) := (by rw [← hf]; rfl); have u31 : f 31 = (.bool true) := (by rw [← hf]; rfl); clear hf; rintro w' ⟨h0, h1, h2, h3, h4, h5, h6, h7⟩; go_simp; try exact IntWalk.i64_in _ (by omega)
  refine obe_val (by rfl) ?_ ?_
  · clear k1_b3_0 g1_b3_0 k1_b3_1 g1_b3_1 k1_b3_2 g1_b3_2 k1_b3_3 g1_b3_3 B1 z1; intro f hf; have u32 : f 32 = (.bool true) := (by rw [← hf]; rfl); clear hf; rintro w' ⟨h0, h1, h2, h3, h4, h5, h6, h7⟩; go_simp; try exact IntWalk.i64_in _ (by omega)
  refine obe_val (by rfl) ?_ ?_
  · clear k1_b3_0 g1_b3_0 k1_b3_1 g1_b3_1 k1_b3_2 g1_b3_2 k1_b3_3 g1_b3_3 B1 z1; intro f hf; have u3 : f 3 = (.pointer (some ⟨w.heap.size, 0, none⟩)) := (by rw [← hf]; rfl); clear hf; rintro w' ⟨h0, h1, h2, h3, h4, h5, h6, h7⟩; go_simp; try exact IntWalk.i64_in _ (by omega)
  refine obe_val (by rfl) ?_ ?_
  · clear k1_b3_0 g1_b3_0 k1_b3_1 g1_b3_1 k1_b3_2 g1_b3_2 k1_b3_3 g1_b3_3 B1 z1; intro f hf; have u1 : f 1 = (.int .i64 x) := (by rw [← hf]; rfl); clear hf; rintro w' ⟨h0, h1, h2, h3, h4, h5, h6, h7⟩; go_simp; try exact IntWalk.i64_in _ (by omega)
  refine obe_val (by rfl) ?_ ?_
  · clear k1_b3_0 g1_b3_0 k1_b3_1 g1_b3_1 k1_b3_2 g1_b3_2 k1_b3_3 g1_b3_3 B1 z1; intro f hf; have u2 : f 2 = (.int .i64 y) := (by rw [← hf]; rfl); clear hf; rintro w' ⟨h0, h1, h2, h3, h4, h5, h6, h7⟩; go_simp; try exact IntWalk.i64_in _ (by omega)
  refine obe_call (by rfl) ?_ ?_ ?_
  · clear k1_b3_0 g1_b3_0 k1_b3_1 g1_b3_1 k1_b3_2 g1_b3_2 k1_b3_3 g1_b3_3 B1 z1; intro f hf; have u34 : f 34 = (.agg #[.int .i64 a, .int .i64 b, .int .i64 c, .int .i64 d]) := (by rw [← hf]; rfl); have u35 : f 35 = (.int .i64 x) := (by rw [← hf]; rfl); have u36 : f 36 = (.int .i64 y) := (by rw [← hf]; rfl); clear hf; intro w' _; simp only [execOp, resolve, invoke, rhoF_tmp, rhoF_func, rhoF_const, u34, u35, u36, List.map_toArray, List.map_cons, List.map_nil]; go_simp
  · clear k1_b3_0 g1_b3_0 k1_b3_1 g1_b3_1 k1_b3_2 g1_b3_2 k1_b3_3 g1_b3_3 B1 z1; rintro w' ⟨h0, h1, h2, h3, h4, h5, h6, h7⟩; exact contains_any a b c d x y _
  refine obe_val (by rfl) ?_ ?_
  · clear k1_b3_0 g1_b3_0 k1_b3_1 g1_b3_1 k1_b3_2 g1_b3_2 k1_b3_3 g1_b3_3 B1 z1; intro f hf; have u3 : f 3 = (.pointer (some ⟨w.heap.size, 0, none⟩)) := (by rw [← hf]; rfl); clear hf; rintro w' ⟨h0, h1, h2, h3, h4, h5, h6, h7⟩; go_simp; try exact IntWalk.i64_in _ (by omega)
  refine obe_val (by rfl) ?_ ?_
  · clear k1_b3_0 g1_b3_0 k1_b3_1 g1_b3_1 k1_b3_2 g1_b3_2 k1_b3_3 g1_b3_3 B1 z1; intro f hf; have u1 : f 1 = (.int .i64 x) := (by rw [← hf]; rfl); clear hf; rintro w' ⟨h0, h1, h2, h3, h4, h5, h6, h7⟩; go_simp; try exact IntWalk.i64_in _ (by omega)
  refine obe_val (by rfl) ?_ ?_
  · clear k1_b3_0 g1_b3_0 k1_b3_1 g1_b3_1 k1_b3_2 g1_b3_2 k1_b3_3 g1_b3_3 B1 z1; intro f hf; have u2 : f 2 = (.int .i64 y) := (by rw [← hf]; rfl); clear hf; rintro w' ⟨h0, h1, h2, h3, h4, h5, h6, h7⟩; go_simp; try exact IntWalk.i64_in _ (by omega)
  refine obe_call (by rfl) ?_ ?_ ?_
  · clear k1_b3_0 g1_b3_0 k1_b3_1 g1_b3_1 k1_b3_2 g1_b3_2 k1_b3_3 g1_b3_3 B1 z1; intro f hf; have u38 : f 38 = (.agg #[.int .i64 a, .int .i64 b, .int .i64 c, .int .i64 d]) := (by rw [← hf]; rfl); have u39 : f 39 = (.int .i64 x) := (by rw [← hf]; rfl); have u40 : f 40 = (.int .i64 y) := (by rw [← hf]; rfl); clear hf; intro w' _; simp only [execOp, resolve, invoke, rhoF_tmp, rhoF_func, rhoF_const, u38, u39, u40, List.map_toArray, List.map_cons, List.map_nil]; go_simp
  · clear k1_b3_0 g1_b3_0 k1_b3_1 g1_b3_1 k1_b3_2 g1_b3_2 k1_b3_3 g1_b3_3 B1 z1; rintro w' ⟨h0, h1, h2, h3, h4, h5, h6, h7⟩; exact rcontains_any a b c d x y _
  refine obe_val (by rfl) ?_ ?_
  · clear k1_b3_0 g1_b3_0 k1_b3_1 g1_b3_1 k1_b3_2 g1_b3_2 k1_b3_3 g1_b3_3 B1 z1; intro f hf; have u37 : f 37 = (.bool (ctB a b c d x y)) := (by rw [← hf]; rfl); have u41 : f 41 = (.bool (ctB a b c d x y)) := (by rw [← hf]; rfl); clear hf; rintro w' ⟨h0, h1, h2, h3, h4, h5, h6, h7⟩; go_simp; try exact IntWalk.i64_in _ (by omega)
  refine obe_val (by rfl) ?_ ?_
  · clear k1_b3_0 g1_b3_0 k1_b3_1 g1_b3_1 k1_b3_2 g1_b3_2 k1_b3_3 g1_b3_3 B1 z1; intro f hf; have u33 : f 33 = (.bool true) := (by rw [← hf]; rfl); have u42 : f 42 = (.bool true) := (by rw [← hf]; rfl); clear hf; rintro w' ⟨h0, h1, h2, h3, h4, h5, h6, h7⟩; go_simp; try exact IntWalk.i64_in _ (by omega)
  refine obe_val (by rfl) ?_ ?_
  · clear k1_b3_0 g1_b3_0 k1_b3_1 g1_b3_1 k1_b3_2 g1_b3_2 k1_b3_3 g1_b3_3 B1 z1; intro f hf; have u43 : f 43 = (.bool true) := (by rw [← hf]; rfl); clear hf; rintro w' ⟨h0, h1, h2, h3, h4, h5, h6, h7⟩; go_simp; try exact IntWalk.i64_in _ (by omega)
  refine obe_val (by rfl) ?_ ?_
  · clear k1_b3_0 g1_b3_0 k1_b3_1 g1_b3_1 k1_b3_2 g1_b3_2 k1_b3_3 g1_b3_3 B1 z1; intro f hf; have u3 : f 3 = (.pointer (some ⟨w.heap.size, 0, none⟩)) := (by rw [← hf]; rfl); clear hf; rintro w' ⟨h0, h1, h2, h3, h4, h5, h6, h7⟩; go_simp; try exact IntWalk.i64_in _ (by omega)
  refine obe_val (by rfl) ?_ ?_
  · clear k1_b3_0 g1_b3_0 k1_b3_1 g1_b3_1 k1_b3_2 g1_b3_2 k1_b3_3 g1_b3_3 B1 z1; intro f hf; have u1 : f 1 = (.int .i64 x) := (by rw [← hf]; rfl); clear hf; rintro w' ⟨h0, h1, h2, h3, h4, h5, h6, h7⟩; go_simp; try exact IntWalk.i64_in _ (by omega)
  refine obe_val (by rfl) ?_ ?_
  · clear k1_b3_0 g1_b3_0 k1_b3_1 g1_b3_1 k1_b3_2 g1_b3_2 k1_b3_3 g1_b3_3 B1 z1; intro f hf; have u2 : f 2 = (.int .i64 y) := (by rw [← hf]; rfl); clear hf; rintro w' ⟨h0, h1, h2, h3, h4, h5, h6, h7⟩; go_simp; try exact IntWalk.i64_in _ (by omega)
  refine obe_call (by rfl) ?_ ?_ ?_
  · clear k1_b3_0 g1_b3_0 k1_b3_1 g1_b3_1 k1_b3_2 g1_b3_2 k1_b3_3 g1_b3_3 B1 z1; intro f hf; have u45 : f 45 = (.agg #[.int .i64 a, .int .i64 b, .int .i64 c, .int .i64 d]) := (by rw [← hf]; rfl); have u46 : f 46 = (.int .i64 x) := (by rw [← hf]; rfl); have u47 : f 47 = (.int .i64 y) := (by rw [← hf]; rfl); clear hf; intro w' _; simp only [execOp, resolve, invoke, rhoF_tmp, rhoF_func, rhoF_const, u45, u46, u47, List.map_toArray, List.map_cons, List.map_nil]; go_simp
  · clear k1_b3_0 g1_b3_0 k1_b3_1 g1_b3_1 k1_b3_2 g1_b3_2 k1_b3_3 g1_b3_3 B1 z1; rintro w' ⟨h0, h1, h2, h3, h4, h5, h6, h7⟩; exact pix_any a b c d x y _
  refine obe_val (by rfl) ?_ ?_
  · clear k1_b3_0 g1_b3_0 k1_b3_1 g1_b3_1 k1_b3_2 g1_b3_2 k1_b3_3 g1_b3_3 B1 z1; intro f hf; have u3 : f 3 = (.pointer (some ⟨w.heap.size, 0, none⟩)) := (by rw [← hf]; rfl); clear hf; rintro w' ⟨h0, h1, h2, h3, h4, h5, h6, h7⟩; go_simp; try exact IntWalk.i64_in _ (by omega)
  refine obe_val (by rfl) ?_ ?_
  · clear k1_b3_0 g1_b3_0 k1_b3_1 g1_b3_1 k1_b3_2 g1_b3_2 k1_b3_3 g1_b3_3 B1 z1; intro f hf; have u1 : f 1 = (.int .i64 x) := (by rw [← hf]; rfl); clear hf; rintro w' ⟨h0, h1, h2, h3, h4, h5, h6, h7⟩; go_simp; try exact IntWalk.i64_in _ (by omega)
  refine obe_val (by rfl) ?_ ?_
  · clear k1_b3_0 g1_b3_0 k1_b3_1 g1_b3_1 k1_b3_2 g1_b3_2 k1_b3_3 g1_b3_3 B1 z1; intro f hf; have u2 : f 2 = (.int .i64 y) := (by rw [← hf]; rfl); clear hf; rintro w' ⟨h0, h1, h2, h3, h4, h5, h6, h7⟩; go_simp; try exact IntWalk.i64_in _ (by omega)
  refine obe_call (by rfl) ?_ ?_ ?_
  · clear k1_b3_0 g1_b3_0 k1_b3_1 g1_b3_1 k1_b3_2 g1_b3_2 k1_b3_3 g1_b3_3 B1 z1; intro f hf; have u49 : f 49 = (.agg #[.int .i64 a, .int .i64 b, .int .i64 c, .int .i64 d]) := (by rw [← hf]; rfl); have u50 : f 50 = (.int .i64 x) := (by rw [← hf]; rfl); have u51 : f 51 = (.int .i64 y) := (by rw [← hf]; rfl); clear hf; intro w' _; simp only [execOp, resolve, invoke, rhoF_tmp, rhoF_func, rhoF_const, u49, u50, u51, List.map_toArray, List.map_cons, List.map_nil]; go_simp
  · clear k1_b3_0 g1_b3_0 k1_b3_1 g1_b3_1 k1_b3_2 g1_b3_2 k1_b3_3 g1_b3_3 B1 z1; rintro w' ⟨h0, h1, h2, h3, h4, h5, h6, h7⟩; exact rpix_any a b c d x y _
  refine obe_val (by rfl) ?_ ?_
  · clear k1_b3_0 g1_b3_0 k1_b3_1 g1_b3_1 k1_b3_2 g1_b3_2 k1_b3_3 g1_b3_3 B1 z1; intro f hf; have u48 : f 48 = (.int .i64 (pxV a b c d x y)) := (by rw [← hf]; rfl); have u52 : f 52 = (.int .i64 (pxV a b c d x y)) := (by rw [← hf]; rfl); clear hf; rintro w' ⟨h0, h1, h2, h3, h4, h5, h6, h7⟩; go_simp; try exact IntWalk.i64_in _ (by omega)
  refine obe_val (by rfl) ?_ ?_
  · clear k1_b3_0 g1_b3_0 k1_b3_1 g1_b3_1 k1_b3_2 g1_b3_2 k1_b3_3 g1_b3_3 B1 z1; intro f hf; have u44 : f 44 = (.bool true) := (by rw [← hf]; rfl); have u53 : f 53 = (.bool true) := (by rw [← hf]; rfl); clear hf; rintro w' ⟨h0, h1, h2, h3, h4, h5, h6, h7⟩; go_simp; try exact IntWalk.i64_in _ (by omega)
  refine obe_val (by rfl) ?_ ?_
  · clear k1_b3_0 g1_b3_0 k1_b3_1 g1_b3_1 k1_b3_2 g1_b3_2 k1_b3_3 g1_b3_3 B1 z1; intro f hf; have u54 : f 54 = (.bool true) := (by rw [← hf]; rfl); clear hf; rintro w' ⟨h0, h1, h2, h3, h4, h5, h6, h7⟩; go_simp; try exact IntWalk.i64_in _ (by omega)
  refine obe_call (by rfl) ?_ ?_ ?_
  · clear k1_b3_0 g1_b3_0 k1_b3_1 g1_b3_1 k1_b3_2 g1_b3_2 k1_b3_3 g1_b3_3 B1 z1; intro f hf; clear hf; intro w' _; simp only [execOp, resolve, invoke, rhoF_tmp, rhoF_func, rhoF_const, List.map_toArray, List.map_cons, List.map_nil]; go_simp
  · clear k1_b3_0 g1_b3_0 k1_b3_1 g1_b3_1 k1_b3_2 g1_b3_2 k1_b3_3 g1_b3_3 B1 z1; rintro w' ⟨h0, h1, h2, h3, h4, h5, h6, h7⟩; exact rex_any _
  refine obe_val (by rfl) ?_ ?_
  · clear k1_b3_0 g1_b3_0 k1_b3_1 g1_b3_1 k1_b3_2 g1_b3_2 k1_b3_3 g1_b3_3 B1 z1; intro f hf; have u55 : f 55 = (.bool true) := (by rw [← hf]; rfl); have u56 : f 56 = (.bool true) := (by rw [← hf]; rfl); clear hf; rintro w' ⟨h0, h1, h2, h3, h4, h5, h6, h7⟩; go_simp; try exact IntWalk.i64_in _ (by omega)
  refine obe_val (by rfl) ?_ ?_
  · clear k1_b3_0 g1_b3_0 k1_b3_1 g1_b3_1 k1_b3_2 g1_b3_2 k1_b3_3 g1_b3_3 B1 z1; intro f hf; have u57 : f 57 = (.bool true) := (by rw [← hf]; rfl); clear hf; rintro w' ⟨h0, h1, h2, h3, h4, h5, h6, h7⟩; go_simp; try exact IntWalk.i64_in _ (by omega)
  refine obe_nil ?_
  rintro w2 ⟨h0, h1, h2, h3, h4, h5, h6, h7⟩ hb2 hF
  (try simp only [List.nil_append, List.append_nil, List.cons_append] at hF)
  simp only [puts, putD, Act.put, List.setIfInBounds_toArray, List.set_cons_zero, List.set_cons_succ]
  clear hF
  have k2_b3_0 := bcs hb2 k1_b3_0
  have g2_b3_0 := bfs hb2 k1_b3_0 g1_b3_0
  have k2_b3_1 := bcs hb2 k1_b3_1
  have g2_b3_1 := bfs hb2 k1_b3_1 g1_b3_1
  have k2_b3_2 := bcs hb2 k1_b3_2
  have g2_b3_2 := bfs hb2 k1_b3_2 g1_b3_2
  have k2_b3_3 := bcs hb2 k1_b3_3
  have g2_b3_3 := bfs hb2 k1_b3_3 g1_b3_3
  clear h0 h1 h2 h3 h4 h5 h6 h7
  have B2 := bel_step B1 hb2
  have z2 := Nat.le_trans z1 hb2.size
  clear hb2
  (try clear B1)
  (try clear z1)
  (try clear k1_b3_0)
  (try clear g1_b3_0)
  (try clear k1_b3_1)
  (try clear g1_b3_1)
  (try clear k1_b3_2)
  (try clear g1_b3_2)
  (try clear k1_b3_3)
  (try clear g1_b3_3)
  (try clear q1_b3)
  (try clear x1_b3)
  (try clear y1_b3)
  have q2_b3 : w.heap.size < w2.heap.size := qlt k2_b3_0
  have x2_b3 : ¬ w.heap.size = w2.heap.size := qne k2_b3_0
  have y2_b3 : ¬ w2.heap.size = w.heap.size := fun h => qne k2_b3_0 h.symm
  unfold wpList
  go_wp2
  go_ret
  refine ⟨rfl, ?_⟩
  repeat (first | with_reducible exact Below.refl _ _ | with_reducible exact B2 | with_reducible apply below_drewN | with_reducible apply Below.drew | (with_reducible refine Below.alloc ?_ (by first | (simp; done) | (simp; omega) | omega) _) | (with_reducible refine Below.setCell ?_ (by first | (simp; done) | (simp; omega) | omega) _))
end Go.Proofs.Ytbipanhgjbnljaa
