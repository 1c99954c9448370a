import Derived.Test.YthofacdiajhjmaaRl
import Derived.Test.YthofacdiajhjmaaVex
import Derived.Test.YthofacdiajhjmaaEnv
import Derived.WalkKit
import Derived.WalkSpells
import Derived.WalkLawsBesides
import Derived.Lib.Hide
import Derived.Below
import Derived.Deep.QuietTactic
import Derived.BigQuiet
import Derived.Deep.RegionHeld3
import Derived.Deep.DrawnRows
import Derived.Deep.DeepFit
import Derived.IntWalk
namespace Go.Proofs.Ythofacdiajhjmaa
open Go.RowKit
set_option linter.unusedVariables false
set_option linter.unusedSimpArgs false
attribute [local go_sem ↓] Go.wp_at_zero Go.wp_at_succ
attribute [local go_sem] rhoF_tmp rhoF_const rhoF_global rhoF_func
set_option maxRecDepth 20000 in
set_option maxHeartbeats 8000000 in
theorem vecLerp_w (x y u v n d : Int) (w : World) :
    Calls Try.prog 4 #[.agg #[.int .i64 x, .int .i64 y], .agg #[.int .i64 u, .int .i64 v], .agg #[.int .i64 n, .int .i64 d]] w fun e w' => e = .returned (.bool true) ∧ Below w.heap.size w w' := by
  have l1 := fun w => vlerp_any x y u v n d w
  have l2 := fun w => rlerp_any x y u v n d w
  obtain ⟨px, hpx⟩ : ∃ p, lerpV (hold x) (hold u) n d = p := ⟨_, rfl⟩
  obtain ⟨py, hpy⟩ : ∃ p, lerpV (hold y) (hold v) n d = p := ⟨_, rfl⟩
  rw [hpx, hpy] at l1 l2
  clear hpx hpy
  go_enter Try.func4, Try.ntmps4
  go_wp2
  refine wp_region_env (fun w' => w'.cell? ⟨w.heap.size, 0, none⟩ = some (.int .i64 x) ∧ w'.frozen? ⟨w.heap.size, 0, none⟩ = false ∧ w'.cell? ⟨w.heap.size, 1, none⟩ = some (.int .i64 y) ∧ w'.frozen? ⟨w.heap.size, 1, none⟩ = false ∧ w'.cell? ⟨w.heap.size + 1, 0, none⟩ = some (.int .i64 u) ∧ w'.frozen? ⟨w.heap.size + 1, 0, none⟩ = false ∧ w'.cell? ⟨w.heap.size + 1, 1, none⟩ = some (.int .i64 v) ∧ w'.frozen? ⟨w.heap.size + 1, 1, none⟩ = false ∧ w'.cell? ⟨w.heap.size + 1 + 1, 0, none⟩ = some (.int .i64 n) ∧ w'.frozen? ⟨w.heap.size + 1 + 1, 0, none⟩ = false ∧ w'.cell? ⟨w.heap.size + 1 + 1, 1, none⟩ = some (.int .i64 d) ∧ w'.frozen? ⟨w.heap.size + 1 + 1, 1, none⟩ = false) (fun W => W.cell? ⟨w.heap.size, 0, none⟩ = some (.int .i64 x) ∧ W.frozen? ⟨w.heap.size, 0, none⟩ = false ∧ W.cell? ⟨w.heap.size, 1, none⟩ = some (.int .i64 y) ∧ W.frozen? ⟨w.heap.size, 1, none⟩ = false ∧ W.cell? ⟨w.heap.size + 1, 0, none⟩ = some (.int .i64 u) ∧ W.frozen? ⟨w.heap.size + 1, 0, none⟩ = false ∧ W.cell? ⟨w.heap.size + 1, 1, none⟩ = some (.int .i64 v) ∧ W.frozen? ⟨w.heap.size + 1, 1, none⟩ = false ∧ W.cell? ⟨w.heap.size + 1 + 1, 0, none⟩ = some (.int .i64 n) ∧ W.frozen? ⟨w.heap.size + 1 + 1, 0, none⟩ = false ∧ W.cell? ⟨w.heap.size + 1 + 1, 1, none⟩ = some (.int .i64 d) ∧ W.frozen? ⟨w.heap.size + 1 + 1, 1, none⟩ = false ∧ Below w.heap.size w W ∧ w.heap.size + 1 + 1 + 1 ≤ W.heap.size) 19 25 [.val (.agg #[.int .i64 x, .int .i64 y]), .val (.agg #[.int .i64 u, .int .i64 v]), .val (.pointer (some ⟨w.heap.size + 1 + 1, 0, none⟩)), .val (.int .i64 n), .val (.pointer (some ⟨w.heap.size + 1 + 1, 1, none⟩)), .val (.int .i64 d), .call 12 #[.agg #[.int .i64 x, .int .i64 y], .agg #[.int .i64 u, .int .i64 v], .int .i64 n, .int .i64 d] (.agg #[.int .i64 px, .int .i64 py]), .val (.agg #[.int .i64 x, .int .i64 y]), .val (.agg #[.int .i64 u, .int .i64 v]), .val (.pointer (some ⟨w.heap.size + 1 + 1, 0, none⟩)), .val (.int .i64 n), .val (.pointer (some ⟨w.heap.size + 1 + 1, 1, none⟩)), .val (.int .i64 d), .call 13 #[.agg #[.int .i64 x, .int .i64 y], .agg #[.int .i64 u, .int .i64 v], .int .i64 n, .int .i64 d] (.agg #[.int .i64 px, .int .i64 py]), .val (.bool true), .val (.bool true), .call 14 #[] (.bool true), .val (.bool true), .val (.bool true)] (by kernel_rfl) (by kernel_rfl) rfl (by kernel_rfl) (by rintro w1 w2 ⟨h0, h1, h2, h3, h4, h5, h6, h7, h8, h9, h10, h11⟩ hb; exact ⟨bcs hb h0, bfs hb h0 h1, bcs hb h2, bfs hb h2 h3, bcs hb h4, bfs hb h4 h5, bcs hb h6, bfs hb h6 h7, bcs hb h8, bfs hb h8 h9, bcs hb h10, bfs hb h10 h11⟩) ⟨by first | with_reducible assumption | go_simp, by first | with_reducible assumption | go_simp, by first | with_reducible assumption | go_simp, by first | with_reducible assumption | go_simp, by first | with_reducible assumption | go_simp, by first | with_reducible assumption | go_simp, by first | with_reducible assumption | go_simp, by first | with_reducible assumption | go_simp, by first | with_reducible assumption | go_simp, by first | with_reducible assumption | go_simp, by first | with_reducible assumption | go_simp, by first | with_reducible assumption | go_simp, by repeat (first | with_reducible exact Below.refl _ _ | fail | with_reducible apply below_drewN | with_reducible apply Below.drew | (with_reducible refine Below.alloc ?_ (by first | (simp; done) | (simp; omega) | omega) _) | (with_reducible refine Below.setCell ?_ (by first | (simp; done) | (simp; omega) | omega) _)), by first | with_reducible assumption | (simp; done) | (simp; omega)⟩ ?_ ?_
  · rintro W ⟨k1_b3_0, g1_b3_0, k1_b3_1, g1_b3_1, k1_b4_0, g1_b4_0, k1_b4_1, g1_b4_1, k1_b5_0, g1_b5_0, k1_b5_1, g1_b5_1, B1, z1⟩; exact ⟨k1_b3_0, g1_b3_0, k1_b3_1, g1_b3_1, k1_b4_0, g1_b4_0, k1_b4_1, g1_b4_1, k1_b5_0, g1_b5_0, k1_b5_1, g1_b5_1⟩
  rintro w1 ⟨k1_b3_0, g1_b3_0, k1_b3_1, g1_b3_1, k1_b4_0, g1_b4_0, k1_b4_1, g1_b4_1, k1_b5_0, g1_b5_0, k1_b5_1, g1_b5_1, B1, z1⟩ gg
  simp only [List.take_succ_cons, List.take_zero, List.drop_succ_cons, List.drop_zero, List.cons_append, List.nil_append, List.append_nil]
  refine obe_val (by rfl) ?_ ?_
  · clear k1_b3_0 g1_b3_0 k1_b3_1 g1_b3_1 k1_b4_0 g1_b4_0 k1_b4_1 g1_b4_1 k1_b5_0 g1_b5_0 k1_b5_1 g1_b5_1 B1 z1; intro f hf; have u3 : f 3 = (.pointer (some ⟨w.heap.size, 0, none⟩)) := (by rw [← hf]; rfl); clear hf; rintro w' ⟨h0, h1, h2, h3, h4, h5, h6, h7, h8, h9, h10, h11⟩; go_simp; try exact IntWalk.i64_in _ (by omega)
  refine obe_val (by rfl) ?_ ?_
  · clear k1_b3_0 g1_b3_0 k1_b3_1 g1_b3_1 k1_b4_0 g1_b4_0 k1_b4_1 g1_b4_1 k1_b5_0 g1_b5_0 k1_b5_1 g1_b5_1 B1 z1; intro f hf; have u4 : f 4 = (.pointer (some ⟨w.heap.size + 1, 0, none⟩)) := (by rw [← hf]; rfl); clear hf; rintro w' ⟨h0, h1, h2, h3, h4, h5, h6, h7, h8, h9, h10, h11⟩; go_simp; try exact IntWalk.i64_in _ (by omega)
  refine obe_val (by rfl) ?_ ?_
  · clear k1_b3_0 g1_b3_0 k1_b3_1 g1_b3_1 k1_b4_0 g1_b4_0 k1_b4_1 g1_b4_1 k1_b5_0 g1_b5_0 k1_b5_1 g1_b5_1 B1 z1; intro f hf; have u5 : f 5 = (.pointer (some ⟨w.heap.size + 1 + 1, 0, none⟩)) := (by rw [← hf]; rfl); clear hf; rintro w' ⟨h0, h1, h2, h3, h4, h5, h6, h7, h8, h9, h10, h11⟩; go_simp; try exact IntWalk.i64_in _ (by omega)
  refine obe_val (by rfl) ?_ ?_
  · clear k1_b3_0 g1_b3_0 k1_b3_1 g1_b3_1 k1_b4_0 g1_b4_0 k1_b4_1 g1_b4_1 k1_b5_0 g1_b5_0 k1_b5_1 g1_b5_1 B1 z1; intro f hf; have u9 : f 9 = (.pointer (some ⟨w.heap.size + 1 + 1, 0, none⟩)) := (by rw [← hf]; rfl); clear hf; rintro w' ⟨h0, h1, h2, h3, h4, h5, h6, h7, h8, h9, h10, h11⟩; go_simp; try exact IntWalk.i64_in _ (by omega)
  refine obe_val (by rfl) ?_ ?_
  · clear k1_b3_0 g1_b3_0 k1_b3_1 g1_b3_1 k1_b4_0 g1_b4_0 k1_b4_1 g1_b4_1 k1_b5_0 g1_b5_0 k1_b5_1 g1_b5_1 B1 z1; intro f hf; have u5 : f 5 = (.pointer (some ⟨w.heap.size + 1 + 1, 0, none⟩)) := (by rw [← hf]; rfl); clear hf; rintro w' ⟨h0, h1, h2, h3, h4, h5, h6, h7, h8, h9, h10, h11⟩; go_simp; try exact IntWalk.i64_in _ (by omega)
  refine obe_val (by rfl) ?_ ?_
  · clear k1_b3_0 g1_b3_0 k1_b3_1 g1_b3_1 k1_b4_0 g1_b4_0 k1_b4_1 g1_b4_1 k1_b5_0 g1_b5_0 k1_b5_1 g1_b5_1 B1 z1; intro f hf; have u11 : f 11 = (.pointer (some ⟨w.heap.size + 1 + 1, 1, none⟩)) := (by rw [← hf]; rfl); clear hf; rintro w' ⟨h0, h1, h2, h3, h4, h5, h6, h7, h8, h9, h10, h11⟩; go_simp; try exact IntWalk.i64_in _ (by omega)
  refine obe_call (by rfl) ?_ ?_ ?_
  · clear k1_b3_0 g1_b3_0 k1_b3_1 g1_b3_1 k1_b4_0 g1_b4_0 k1_b4_1 g1_b4_1 k1_b5_0 g1_b5_0 k1_b5_1 g1_b5_1 B1 z1; intro f hf; have u7 : f 7 = (.agg #[.int .i64 x, .int .i64 y]) := (by rw [← hf]; rfl); have u8 : f 8 = (.agg #[.int .i64 u, .int .i64 v]) := (by rw [← hf]; rfl); have u10 : f 10 = (.int .i64 n) := (by rw [← hf]; rfl); have u12 : f 12 = (.int .i64 d) := (by rw [← hf]; rfl); clear hf; intro w' _; simp only [execOp, resolve, invoke, rhoF_tmp, rhoF_func, rhoF_const, u7, u8, u10, u12, List.map_toArray, List.map_cons, List.map_nil]; go_simp
  · clear k1_b3_0 g1_b3_0 k1_b3_1 g1_b3_1 k1_b4_0 g1_b4_0 k1_b4_1 g1_b4_1 k1_b5_0 g1_b5_0 k1_b5_1 g1_b5_1 B1 z1; rintro w' ⟨h0, h1, h2, h3, h4, h5, h6, h7, h8, h9, h10, h11⟩; exact l1 _
  refine obe_val (by rfl) ?_ ?_
  · clear k1_b3_0 g1_b3_0 k1_b3_1 g1_b3_1 k1_b4_0 g1_b4_0 k1_b4_1 g1_b4_1 k1_b5_0 g1_b5_0 k1_b5_1 g1_b5_1 B1 z1; intro f hf; have u3 : f 3 = (.pointer (some ⟨w.heap.size, 0, none⟩)) := (by rw [← hf]; rfl); clear hf; rintro w' ⟨h0, h1, h2, h3, h4, h5, h6, h7, h8, h9, h10, h11⟩; go_simp; try exact IntWalk.i64_in _ (by omega)
  refine obe_val (by rfl) ?_ ?_
  · clear k1_b3_0 g1_b3_0 k1_b3_1 g1_b3_1 k1_b4_0 g1_b4_0 k1_b4_1 g1_b4_1 k1_b5_0 g1_b5_0 k1_b5_1 g1_b5_1 B1 z1; intro f hf; have u4 : f 4 = (.pointer (some ⟨w.heap.size + 1, 0, none⟩)) := (by rw [← hf]; rfl); clear hf; rintro w' ⟨h0, h1, h2, h3, h4, h5, h6, h7, h8, h9, h10, h11⟩; go_simp; try exact IntWalk.i64_in _ (by omega)
  refine obe_val (by rfl) ?_ ?_
  · clear k1_b3_0 g1_b3_0 k1_b3_1 g1_b3_1 k1_b4_0 g1_b4_0 k1_b4_1 g1_b4_1 k1_b5_0 g1_b5_0 k1_b5_1 g1_b5_1 B1 z1; intro f hf; have u5 : f 5 = (.pointer (some ⟨w.heap.size + 1 + 1, 0, none⟩)) := (by rw [← hf]; rfl); clear hf; rintro w' ⟨h0, h1, h2, h3, h4, h5, h6, h7, h8, h9, h10, h11⟩; go_simp; try exact IntWalk.i64_in _ (by omega)
  refine obe_val (by rfl) ?_ ?_
  · clear k1_b3_0 g1_b3_0 k1_b3_1 g1_b3_1 k1_b4_0 g1_b4_0 k1_b4_1 g1_b4_1 k1_b5_0 g1_b5_0 k1_b5_1 g1_b5_1 B1 z1; intro f hf; have u16 : f 16 = (.pointer (some ⟨w.heap.size + 1 + 1, 0, none⟩)) := (by rw [← hf]; rfl); clear hf; rintro w' ⟨h0, h1, h2, h3, h4, h5, h6, h7, h8, h9, h10, h11⟩; go_simp; try exact IntWalk.i64_in _ (by omega)
  refine obe_val (by rfl) ?_ ?_
  · clear k1_b3_0 g1_b3_0 k1_b3_1 g1_b3_1 k1_b4_0 g1_b4_0 k1_b4_1 g1_b4_1 k1_b5_0 g1_b5_0 k1_b5_1 g1_b5_1 B1 z1; intro f hf; have u5 : f 5 = (.pointer (some ⟨w.heap.size + 1 + 1, 0, none⟩)) := (by rw [← hf]; rfl); clear hf; rintro w' ⟨h0, h1, h2, h3, h4, h5, h6, h7, h8, h9, h10, h11⟩; go_simp; try exact IntWalk.i64_in _ (by omega)
  refine obe_val (by rfl) ?_ ?_
  · clear k1_b3_0 g1_b3_0 k1_b3_1 g1_b3_1 k1_b4_0 g1_b4_0 k1_b4_1 g1_b4_1 k1_b5_0 g1_b5_0 k1_b5_1 g1_b5_1 B1 z1; intro f hf; have u18 : f 18 = (.pointer (some ⟨w.heap.size + 1 + 1, 1, none⟩)) := (by rw [← hf]; rfl); clear hf; rintro w' ⟨h0, h1, h2, h3, h4, h5, h6, h7, h8, h9, h10, h11⟩; go_simp; try exact IntWalk.i64_in _ (by omega)
  refine obe_call (by rfl) ?_ ?_ ?_
  · clear k1_b3_0 g1_b3_0 k1_b3_1 g1_b3_1 k1_b4_0 g1_b4_0 k1_b4_1 g1_b4_1 k1_b5_0 g1_b5_0 k1_b5_1 g1_b5_1 B1 z1; intro f hf; have u14 : f 14 = (.agg #[.int .i64 x, .int .i64 y]) := (by rw [← hf]; rfl); have u15 : f 15 = (.agg #[.int .i64 u, .int .i64 v]) := (by rw [← hf]; rfl); have u17 : f 17 = (.int .i64 n) := (by rw [← hf]; rfl); have u19 : f 19 = (.int .i64 d) := (by rw [← hf]; rfl); clear hf; intro w' _; simp only [execOp, resolve, invoke, rhoF_tmp, rhoF_func, rhoF_const, u14, u15, u17, u19, List.map_toArray, List.map_cons, List.map_nil]; go_simp
  · clear k1_b3_0 g1_b3_0 k1_b3_1 g1_b3_1 k1_b4_0 g1_b4_0 k1_b4_1 g1_b4_1 k1_b5_0 g1_b5_0 k1_b5_1 g1_b5_1 B1 z1; rintro w' ⟨h0, h1, h2, h3, h4, h5, h6, h7, h8, h9, h10, h11⟩; exact l2 _
  refine obe_val (by rfl) ?_ ?_
  · clear k1_b3_0 g1_b3_0 k1_b3_1 g1_b3_1 k1_b4_0 g1_b4_0 k1_b4_1 g1_b4_1 k1_b5_0 g1_b5_0 k1_b5_1 g1_b5_1 B1 z1; intro f hf; have u13 : f 13 = (.agg #[.int .i64 px, .int .i64 py]) := (by rw [← hf]; rfl); have u20 : f 20 = (.agg #[.int .i64 px, .int .i64 py]) := (by rw [← hf]; rfl); clear hf; rintro w' ⟨h0, h1, h2, h3, h4, h5, h6, h7, h8, h9, h10, h11⟩; go_simp; try exact IntWalk.i64_in _ (by omega)
  refine obe_val (by rfl) ?_ ?_
  · clear k1_b3_0 g1_b3_0 k1_b3_1 g1_b3_1 k1_b4_0 g1_b4_0 k1_b4_1 g1_b4_1 k1_b5_0 g1_b5_0 k1_b5_1 g1_b5_1 B1 z1; intro f hf; have u21 : f 21 = (.bool true) := (by rw [← hf]; rfl); clear hf; rintro w' ⟨h0, h1, h2, h3, h4, h5, h6, h7, h8, h9, h10, h11⟩; go_simp; try exact IntWalk.i64_in _ (by omega)
  refine obe_call (by rfl) ?_ ?_ ?_
  · clear k1_b3_0 g1_b3_0 k1_b3_1 g1_b3_1 k1_b4_0 g1_b4_0 k1_b4_1 g1_b4_1 k1_b5_0 g1_b5_0 k1_b5_1 g1_b5_1 B1 z1; intro f hf; clear hf; intro w' _; simp only [execOp, resolve, invoke, rhoF_tmp, rhoF_func, rhoF_const, List.map_toArray, List.map_cons, List.map_nil]; go_simp
  · clear k1_b3_0 g1_b3_0 k1_b3_1 g1_b3_1 k1_b4_0 g1_b4_0 k1_b4_1 g1_b4_1 k1_b5_0 g1_b5_0 k1_b5_1 g1_b5_1 B1 z1; rintro w' ⟨h0, h1, h2, h3, h4, h5, h6, h7, h8, h9, h10, h11⟩; exact example_any _
  refine obe_val (by rfl) ?_ ?_
  · clear k1_b3_0 g1_b3_0 k1_b3_1 g1_b3_1 k1_b4_0 g1_b4_0 k1_b4_1 g1_b4_1 k1_b5_0 g1_b5_0 k1_b5_1 g1_b5_1 B1 z1; intro f hf; have u22 : f 22 = (.bool true) := (by rw [← hf]; rfl); have u23 : f 23 = (.bool true) := (by rw [← hf]; rfl); clear hf; rintro w' ⟨h0, h1, h2, h3, h4, h5, h6, h7, h8, h9, h10, h11⟩; go_simp; try exact IntWalk.i64_in _ (by omega)
  refine obe_val (by rfl) ?_ ?_
  · clear k1_b3_0 g1_b3_0 k1_b3_1 g1_b3_1 k1_b4_0 g1_b4_0 k1_b4_1 g1_b4_1 k1_b5_0 g1_b5_0 k1_b5_1 g1_b5_1 B1 z1; intro f hf; have u24 : f 24 = (.bool true) := (by rw [← hf]; rfl); clear hf; rintro w' ⟨h0, h1, h2, h3, h4, h5, h6, h7, h8, h9, h10, h11⟩; go_simp; try exact IntWalk.i64_in _ (by omega)
  refine obe_nil ?_
  rintro w2 ⟨h0, h1, h2, h3, h4, h5, h6, h7, h8, h9, h10, h11⟩ hb2 hF
  (try simp only [List.nil_append, List.append_nil, List.cons_append] at hF)
  simp only [puts, putD, Act.put, List.setIfInBounds_toArray, List.set_cons_zero, List.set_cons_succ]
  clear hF
  have k2_b3_0 := bcs hb2 k1_b3_0
  have g2_b3_0 := bfs hb2 k1_b3_0 g1_b3_0
  have k2_b3_1 := bcs hb2 k1_b3_1
  have g2_b3_1 := bfs hb2 k1_b3_1 g1_b3_1
  have k2_b4_0 := bcs hb2 k1_b4_0
  have g2_b4_0 := bfs hb2 k1_b4_0 g1_b4_0
  have k2_b4_1 := bcs hb2 k1_b4_1
  have g2_b4_1 := bfs hb2 k1_b4_1 g1_b4_1
  have k2_b5_0 := bcs hb2 k1_b5_0
  have g2_b5_0 := bfs hb2 k1_b5_0 g1_b5_0
  have k2_b5_1 := bcs hb2 k1_b5_1
  have g2_b5_1 := bfs hb2 k1_b5_1 g1_b5_1
  clear h0 h1 h2 h3 h4 h5 h6 h7 h8 h9 h10 h11
  have B2 := bel_step B1 hb2
  have z2 := Nat.le_trans z1 hb2.size
  clear hb2
  (try clear B1)
  (try clear z1)
  (try clear k1_b3_0)
  (try clear g1_b3_0)
  (try clear k1_b3_1)
  (try clear g1_b3_1)
  (try clear k1_b4_0)
  (try clear g1_b4_0)
  (try clear k1_b4_1)
  (try clear g1_b4_1)
  (try clear k1_b5_0)
  (try clear g1_b5_0)
  (try clear k1_b5_1)
  (try clear g1_b5_1)
  (try clear q1_b3)
  (try clear x1_b3)
  (try clear y1_b3)
  (try clear q1_b4)
  (try clear x1_b4)
  (try clear y1_b4)
  (try clear q1_b5)
  (try clear x1_b5)
  (try clear y1_b5)
  have q2_b3 : w.heap.size < w2.heap.size := qlt k2_b3_0
  have x2_b3 : ¬ w.heap.size = w2.heap.size := qne k2_b3_0
  have y2_b3 : ¬ w2.heap.size = w.heap.size := fun h => qne k2_b3_0 h.symm
  have q2_b4 : w.heap.size + 1 < w2.heap.size := qlt k2_b4_0
  have x2_b4 : ¬ w.heap.size + 1 = w2.heap.size := qne k2_b4_0
  have y2_b4 : ¬ w2.heap.size = w.heap.size + 1 := fun h => qne k2_b4_0 h.symm
  have q2_b5 : w.heap.size + 1 + 1 < w2.heap.size := qlt k2_b5_0
  have x2_b5 : ¬ w.heap.size + 1 + 1 = w2.heap.size := qne k2_b5_0
  have y2_b5 : ¬ w2.heap.size = w.heap.size + 1 + 1 := fun h => qne k2_b5_0 h.symm
  unfold wpList
  go_wp2
  go_ret
  refine ⟨rfl, ?_⟩
  repeat (first | with_reducible exact Below.refl _ _ | with_reducible exact B2 | with_reducible apply below_drewN | with_reducible apply Below.drew | (with_reducible refine Below.alloc ?_ (by first | (simp; done) | (simp; omega) | omega) _) | (with_reducible refine Below.setCell ?_ (by first | (simp; done) | (simp; omega) | omega) _))
end Go.Proofs.Ythofacdiajhjmaa
