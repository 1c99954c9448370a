import Derived.Test.YtahdnlebokmajaaVex
import Derived.Test.YtahdnlebokmajaaV5
import Derived.WalkKit
import Derived.WalkSpells
import Derived.WalkLawsBesides
import Derived.Lib.Hide
import Derived.Below
import Derived.Deep.QuietTactic
import Derived.BigQuiet
import Derived.Deep.RegionHeld3
import Derived.Deep.DrawnRows
import Derived.Deep.DeepFit
import Derived.IntWalk
namespace Go.Proofs.Ytahdnlebokmajaa
open Go.RowKit
set_option linter.unusedVariables false
set_option linter.unusedSimpArgs false
attribute [local go_sem ↓] Go.wp_at_zero Go.wp_at_succ

set_option maxHeartbeats 4000000 in
theorem vecPredicates_w (x y u v s t : Int) (w : World) :
    Calls Try.prog 4 #[.agg #[.int .i64 x, .int .i64 y], .agg #[.int .i64 u, .int .i64 v], .agg #[.int .i64 s, .int .i64 t]] w fun e w' => e = .returned (.bool true) ∧ Below w.heap.size w w' := by
  go_enter Try.func4, Try.ntmps4
  go_wp2
  refine wp_region_ord (fun w' => w'.cell? ⟨w.heap.size, 0, none⟩ = some (.int .i64 x) ∧ w'.frozen? ⟨w.heap.size, 0, none⟩ = false ∧ w'.cell? ⟨w.heap.size, 1, none⟩ = some (.int .i64 y) ∧ w'.frozen? ⟨w.heap.size, 1, none⟩ = false ∧ w'.cell? ⟨w.heap.size + 1, 0, none⟩ = some (.int .i64 u) ∧ w'.frozen? ⟨w.heap.size + 1, 0, none⟩ = false ∧ w'.cell? ⟨w.heap.size + 1, 1, none⟩ = some (.int .i64 v) ∧ w'.frozen? ⟨w.heap.size + 1, 1, none⟩ = false ∧ w'.cell? ⟨w.heap.size + 1 + 1, 0, none⟩ = some (.int .i64 s) ∧ w'.frozen? ⟨w.heap.size + 1 + 1, 0, none⟩ = false ∧ w'.cell? ⟨w.heap.size + 1 + 1, 1, none⟩ = some (.int .i64 t) ∧ w'.frozen? ⟨w.heap.size + 1 + 1, 1, none⟩ = false) (fun W => W.cell? ⟨w.heap.size, 0, none⟩ = some (.int .i64 x) ∧ W.frozen? ⟨w.heap.size, 0, none⟩ = false ∧ W.cell? ⟨w.heap.size, 1, none⟩ = some (.int .i64 y) ∧ W.frozen? ⟨w.heap.size, 1, none⟩ = false ∧ W.cell? ⟨w.heap.size + 1, 0, none⟩ = some (.int .i64 u) ∧ W.frozen? ⟨w.heap.size + 1, 0, none⟩ = false ∧ W.cell? ⟨w.heap.size + 1, 1, none⟩ = some (.int .i64 v) ∧ W.frozen? ⟨w.heap.size + 1, 1, none⟩ = false ∧ W.cell? ⟨w.heap.size + 1 + 1, 0, none⟩ = some (.int .i64 s) ∧ W.frozen? ⟨w.heap.size + 1 + 1, 0, none⟩ = false ∧ W.cell? ⟨w.heap.size + 1 + 1, 1, none⟩ = some (.int .i64 t) ∧ W.frozen? ⟨w.heap.size + 1 + 1, 1, none⟩ = false ∧ Below w.heap.size w W ∧ w.heap.size + 1 + 1 + 1 ≤ W.heap.size) 24 [.val (.agg #[.int .i64 x, .int .i64 y]), .val (.agg #[.int .i64 u, .int .i64 v]), .val (.agg #[.int .i64 s, .int .i64 t]), .call 26 #[.agg #[.int .i64 x, .int .i64 y], .agg #[.int .i64 u, .int .i64 v], .agg #[.int .i64 s, .int .i64 t]] (.int .i64 (oriV x y u v s t)), .val (.agg #[.int .i64 x, .int .i64 y]), .val (.agg #[.int .i64 u, .int .i64 v]), .val (.agg #[.int .i64 s, .int .i64 t]), .call 27 #[.agg #[.int .i64 x, .int .i64 y], .agg #[.int .i64 u, .int .i64 v], .agg #[.int .i64 s, .int .i64 t]] (.int .i64 (oriV x y u v s t)), .val (.bool true), .val (.bool true), .val (.agg #[.int .i64 x, .int .i64 y]), .val (.agg #[.int .i64 u, .int .i64 v]), .val (.agg #[.int .i64 s, .int .i64 t]), .call 28 #[.agg #[.int .i64 x, .int .i64 y], .agg #[.int .i64 u, .int .i64 v], .agg #[.int .i64 s, .int .i64 t]] (.bool (onsB x y u v s t)), .val (.agg #[.int .i64 x, .int .i64 y]), .val (.agg #[.int .i64 u, .int .i64 v]), .val (.agg #[.int .i64 s, .int .i64 t]), .call 29 #[.agg #[.int .i64 x, .int .i64 y], .agg #[.int .i64 u, .int .i64 v], .agg #[.int .i64 s, .int .i64 t]] (.bool (onsB x y u v s t)), .val (.bool true), .val (.bool true), .val (.bool true), .call 25 #[] (.bool true), .val (.bool true), .val (.bool true)] (by kernel_rfl) (by kernel_rfl) (by rintro w1 w2 ⟨h0, h1, h2, h3, h4, h5, h6, h7, h8, h9, h10, h11⟩ hb; exact ⟨bcs hb h0, bfs hb h0 h1, bcs hb h2, bfs hb h2 h3, bcs hb h4, bfs hb h4 h5, bcs hb h6, bfs hb h6 h7, bcs hb h8, bfs hb h8 h9, bcs hb h10, bfs hb h10 h11⟩) ⟨by first | with_reducible assumption | go_simp, by first | with_reducible assumption | go_simp, by first | with_reducible assumption | go_simp, by first | with_reducible assumption | go_simp, by first | with_reducible assumption | go_simp, by first | with_reducible assumption | go_simp, by first | with_reducible assumption | go_simp, by first | with_reducible assumption | go_simp, by first | with_reducible assumption | go_simp, by first | with_reducible assumption | go_simp, by first | with_reducible assumption | go_simp, by first | with_reducible assumption | go_simp, by repeat (first | with_reducible exact Below.refl _ _ | fail | with_reducible apply below_drewN | with_reducible apply Below.drew | (with_reducible refine Below.alloc ?_ (by first | (simp; done) | (simp; omega) | omega) _) | (with_reducible refine Below.setCell ?_ (by first | (simp; done) | (simp; omega) | omega) _)), by first | with_reducible assumption | (simp; done) | (simp; omega)⟩ ?_ ?_
  · rintro W ⟨k1_a_0, g1_a_0, k1_a_1, g1_a_1, k1_b_0, g1_b_0, k1_b_1, g1_b_1, k1_p_0, g1_p_0, k1_p_1, g1_p_1, B1, z1⟩; exact ⟨k1_a_0, g1_a_0, k1_a_1, g1_a_1, k1_b_0, g1_b_0, k1_b_1, g1_b_1, k1_p_0, g1_p_0, k1_p_1, g1_p_1⟩
  rintro w1 ⟨k1_a_0, g1_a_0, k1_a_1, g1_a_1, k1_b_0, g1_b_0, k1_b_1, g1_b_1, k1_p_0, g1_p_0, k1_p_1, g1_p_1, B1, z1⟩ gg
  simp only [List.take_succ_cons, List.take_zero, List.drop_succ_cons, List.drop_zero, Obs, ob, Sp.get, Sp.news, Act.put, List.setIfInBounds_toArray, List.set_cons_zero, List.set_cons_succ, List.nil_append, List.cons_append, List.append_nil]
  refine ⟨⟨rfl, ?_⟩, ⟨rfl, ?_⟩, ⟨rfl, ?_⟩, ⟨rfl, ?_, ?_⟩, ⟨rfl, ?_⟩, ⟨rfl, ?_⟩, ⟨rfl, ?_⟩, ⟨rfl, ?_, ?_⟩, ⟨rfl, ?_⟩, ⟨rfl, ?_⟩, ⟨rfl, ?_⟩, ⟨rfl, ?_⟩, ⟨rfl, ?_⟩, ⟨rfl, ?_, ?_⟩, ⟨rfl, ?_⟩, ⟨rfl, ?_⟩, ⟨rfl, ?_⟩, ⟨rfl, ?_, ?_⟩, ⟨rfl, ?_⟩, ⟨rfl, ?_⟩, ⟨rfl, ?_⟩, ⟨rfl, ?_, ?_⟩, ⟨rfl, ?_⟩, ⟨rfl, ?_⟩, ?_⟩
  · clear k1_a_0 g1_a_0 k1_a_1 g1_a_1 k1_b_0 g1_b_0 k1_b_1 g1_b_1 k1_p_0 g1_p_0 k1_p_1 g1_p_1 B1 z1; rintro w' ⟨h0, h1, h2, h3, h4, h5, h6, h7, h8, h9, h10, h11⟩; go_simp; try exact IntWalk.i64_in _ (by omega)
  · clear k1_a_0 g1_a_0 k1_a_1 g1_a_1 k1_b_0 g1_b_0 k1_b_1 g1_b_1 k1_p_0 g1_p_0 k1_p_1 g1_p_1 B1 z1; rintro w' ⟨h0, h1, h2, h3, h4, h5, h6, h7, h8, h9, h10, h11⟩; go_simp; try exact IntWalk.i64_in _ (by omega)
  · clear k1_a_0 g1_a_0 k1_a_1 g1_a_1 k1_b_0 g1_b_0 k1_b_1 g1_b_1 k1_p_0 g1_p_0 k1_p_1 g1_p_1 B1 z1; rintro w' ⟨h0, h1, h2, h3, h4, h5, h6, h7, h8, h9, h10, h11⟩; go_simp; try exact IntWalk.i64_in _ (by omega)
  · clear k1_a_0 g1_a_0 k1_a_1 g1_a_1 k1_b_0 g1_b_0 k1_b_1 g1_b_1 k1_p_0 g1_p_0 k1_p_1 g1_p_1 B1 z1; rintro w' ⟨h0, h1, h2, h3, h4, h5, h6, h7, h8, h9, h10, h11⟩; go_simp
  · clear k1_a_0 g1_a_0 k1_a_1 g1_a_1 k1_b_0 g1_b_0 k1_b_1 g1_b_1 k1_p_0 g1_p_0 k1_p_1 g1_p_1 B1 z1; rintro w' ⟨h0, h1, h2, h3, h4, h5, h6, h7, h8, h9, h10, h11⟩; exact vori_any x y u v s t _
  · clear k1_a_0 g1_a_0 k1_a_1 g1_a_1 k1_b_0 g1_b_0 k1_b_1 g1_b_1 k1_p_0 g1_p_0 k1_p_1 g1_p_1 B1 z1; rintro w' ⟨h0, h1, h2, h3, h4, h5, h6, h7, h8, h9, h10, h11⟩; go_simp; try exact IntWalk.i64_in _ (by omega)
  · clear k1_a_0 g1_a_0 k1_a_1 g1_a_1 k1_b_0 g1_b_0 k1_b_1 g1_b_1 k1_p_0 g1_p_0 k1_p_1 g1_p_1 B1 z1; rintro w' ⟨h0, h1, h2, h3, h4, h5, h6, h7, h8, h9, h10, h11⟩; go_simp; try exact IntWalk.i64_in _ (by omega)
  · clear k1_a_0 g1_a_0 k1_a_1 g1_a_1 k1_b_0 g1_b_0 k1_b_1 g1_b_1 k1_p_0 g1_p_0 k1_p_1 g1_p_1 B1 z1; rintro w' ⟨h0, h1, h2, h3, h4, h5, h6, h7, h8, h9, h10, h11⟩; go_simp; try exact IntWalk.i64_in _ (by omega)
  · clear k1_a_0 g1_a_0 k1_a_1 g1_a_1 k1_b_0 g1_b_0 k1_b_1 g1_b_1 k1_p_0 g1_p_0 k1_p_1 g1_p_1 B1 z1; rintro w' ⟨h0, h1, h2, h3, h4, h5, h6, h7, h8, h9, h10, h11⟩; go_simp
  · clear k1_a_0 g1_a_0 k1_a_1 g1_a_1 k1_b_0 g1_b_0 k1_b_1 g1_b_1 k1_p_0 g1_p_0 k1_p_1 g1_p_1 B1 z1; rintro w' ⟨h0, h1, h2, h3, h4, h5, h6, h7, h8, h9, h10, h11⟩; exact rori_any x y u v s t _
  · clear k1_a_0 g1_a_0 k1_a_1 g1_a_1 k1_b_0 g1_b_0 k1_b_1 g1_b_1 k1_p_0 g1_p_0 k1_p_1 g1_p_1 B1 z1; rintro w' ⟨h0, h1, h2, h3, h4, h5, h6, h7, h8, h9, h10, h11⟩; go_simp; try exact IntWalk.i64_in _ (by omega)
  · clear k1_a_0 g1_a_0 k1_a_1 g1_a_1 k1_b_0 g1_b_0 k1_b_1 g1_b_1 k1_p_0 g1_p_0 k1_p_1 g1_p_1 B1 z1; rintro w' ⟨h0, h1, h2, h3, h4, h5, h6, h7, h8, h9, h10, h11⟩; go_simp; try exact IntWalk.i64_in _ (by omega)
  · clear k1_a_0 g1_a_0 k1_a_1 g1_a_1 k1_b_0 g1_b_0 k1_b_1 g1_b_1 k1_p_0 g1_p_0 k1_p_1 g1_p_1 B1 z1; rintro w' ⟨h0, h1, h2, h3, h4, h5, h6, h7, h8, h9, h10, h11⟩; go_simp; try exact IntWalk.i64_in _ (by omega)
  · clear k1_a_0 g1_a_0 k1_a_1 g1_a_1 k1_b_0 g1_b_0 k1_b_1 g1_b_1 k1_p_0 g1_p_0 k1_p_1 g1_p_1 B1 z1; rintro w' ⟨h0, h1, h2, h3, h4, h5, h6, h7, h8, h9, h10, h11⟩; go_simp; try exact IntWalk.i64_in _ (by omega)
  · clear k1_a_0 g1_a_0 k1_a_1 g1_a_1 k1_b_0 g1_b_0 k1_b_1 g1_b_1 k1_p_0 g1_p_0 k1_p_1 g1_p_1 B1 z1; rintro w' ⟨h0, h1, h2, h3, h4, h5, h6, h7, h8, h9, h10, h11⟩; go_simp; try exact IntWalk.i64_in _ (by omega)
  · clear k1_a_0 g1_a_0 k1_a_1 g1_a_1 k1_b_0 g1_b_0 k1_b_1 g1_b_1 k1_p_0 g1_p_0 k1_p_1 g1_p_1 B1 z1; rintro w' ⟨h0, h1, h2, h3, h4, h5, h6, h7, h8, h9, h10, h11⟩; go_simp
  · clear k1_a_0 g1_a_0 k1_a_1 g1_a_1 k1_b_0 g1_b_0 k1_b_1 g1_b_1 k1_p_0 g1_p_0 k1_p_1 g1_p_1 B1 z1; rintro w' ⟨h0, h1, h2, h3, h4, h5, h6, h7, h8, h9, h10, h11⟩; exact vons_any x y u v s t _
  · clear k1_a_0 g1_a_0 k1_a_1 g1_a_1 k1_b_0 g1_b_0 k1_b_1 g1_b_1 k1_p_0 g1_p_0 k1_p_1 g1_p_1 B1 z1; rintro w' ⟨h0, h1, h2, h3, h4, h5, h6, h7, h8, h9, h10, h11⟩; go_simp; try exact IntWalk.i64_in _ (by omega)
  · clear k1_a_0 g1_a_0 k1_a_1 g1_a_1 k1_b_0 g1_b_0 k1_b_1 g1_b_1 k1_p_0 g1_p_0 k1_p_1 g1_p_1 B1 z1; rintro w' ⟨h0, h1, h2, h3, h4, h5, h6, h7, h8, h9, h10, h11⟩; go_simp; try exact IntWalk.i64_in _ (by omega)
  · clear k1_a_0 g1_a_0 k1_a_1 g1_a_1 k1_b_0 g1_b_0 k1_b_1 g1_b_1 k1_p_0 g1_p_0 k1_p_1 g1_p_1 B1 z1; rintro w' ⟨h0, h1, h2, h3, h4, h5, h6, h7, h8, h9, h10, h11⟩; go_simp; try exact IntWalk.i64_in _ (by omega)
  · clear k1_a_0 g1_a_0 k1_a_1 g1_a_1 k1_b_0 g1_b_0 k1_b_1 g1_b_1 k1_p_0 g1_p_0 k1_p_1 g1_p_1 B1 z1; rintro w' ⟨h0, h1, h2, h3, h4, h5, h6, h7, h8, h9, h10, h11⟩; go_simp
  · clear k1_a_0 g1_a_0 k1_a_1 g1_a_1 k1_b_0 g1_b_0 k1_b_1 g1_b_1 k1_p_0 g1_p_0 k1_p_1 g1_p_1 B1 z1; rintro w' ⟨h0, h1, h2, h3, h4, h5, h6, h7, h8, h9, h10, h11⟩; exact rons_any x y u v s t _
  · clear k1_a_0 g1_a_0 k1_a_1 g1_a_1 k1_b_0 g1_b_0 k1_b_1 g1_b_1 k1_p_0 g1_p_0 k1_p_1 g1_p_1 B1 z1; rintro w' ⟨h0, h1, h2, h3, h4, h5, h6, h7, h8, h9, h10, h11⟩; go_simp; try exact IntWalk.i64_in _ (by omega)
  · clear k1_a_0 g1_a_0 k1_a_1 g1_a_1 k1_b_0 g1_b_0 k1_b_1 g1_b_1 k1_p_0 g1_p_0 k1_p_1 g1_p_1 B1 z1; rintro w' ⟨h0, h1, h2, h3, h4, h5, h6, h7, h8, h9, h10, h11⟩; go_simp; try exact IntWalk.i64_in _ (by omega)
  · clear k1_a_0 g1_a_0 k1_a_1 g1_a_1 k1_b_0 g1_b_0 k1_b_1 g1_b_1 k1_p_0 g1_p_0 k1_p_1 g1_p_1 B1 z1; rintro w' ⟨h0, h1, h2, h3, h4, h5, h6, h7, h8, h9, h10, h11⟩; go_simp; try exact IntWalk.i64_in _ (by omega)
  · clear k1_a_0 g1_a_0 k1_a_1 g1_a_1 k1_b_0 g1_b_0 k1_b_1 g1_b_1 k1_p_0 g1_p_0 k1_p_1 g1_p_1 B1 z1; rintro w' ⟨h0, h1, h2, h3, h4, h5, h6, h7, h8, h9, h10, h11⟩; go_simp
  · clear k1_a_0 g1_a_0 k1_a_1 g1_a_1 k1_b_0 g1_b_0 k1_b_1 g1_b_1 k1_p_0 g1_p_0 k1_p_1 g1_p_1 B1 z1; rintro w' ⟨h0, h1, h2, h3, h4, h5, h6, h7, h8, h9, h10, h11⟩; exact example_any _
  · clear k1_a_0 g1_a_0 k1_a_1 g1_a_1 k1_b_0 g1_b_0 k1_b_1 g1_b_1 k1_p_0 g1_p_0 k1_p_1 g1_p_1 B1 z1; rintro w' ⟨h0, h1, h2, h3, h4, h5, h6, h7, h8, h9, h10, h11⟩; go_simp; try exact IntWalk.i64_in _ (by omega)
  · clear k1_a_0 g1_a_0 k1_a_1 g1_a_1 k1_b_0 g1_b_0 k1_b_1 g1_b_1 k1_p_0 g1_p_0 k1_p_1 g1_p_1 B1 z1; rintro w' ⟨h0, h1, h2, h3, h4, h5, h6, h7, h8, h9, h10, h11⟩; go_simp; try exact IntWalk.i64_in _ (by omega)
  rintro w2 ⟨h0, h1, h2, h3, h4, h5, h6, h7, h8, h9, h10, h11⟩ hb2 hF
  clear hF
  have k2_a_0 := bcs hb2 k1_a_0
  have g2_a_0 := bfs hb2 k1_a_0 g1_a_0
  have k2_a_1 := bcs hb2 k1_a_1
  have g2_a_1 := bfs hb2 k1_a_1 g1_a_1
  have k2_b_0 := bcs hb2 k1_b_0
  have g2_b_0 := bfs hb2 k1_b_0 g1_b_0
  have k2_b_1 := bcs hb2 k1_b_1
  have g2_b_1 := bfs hb2 k1_b_1 g1_b_1
  have k2_p_0 := bcs hb2 k1_p_0
  have g2_p_0 := bfs hb2 k1_p_0 g1_p_0
  have k2_p_1 := bcs hb2 k1_p_1
  have g2_p_1 := bfs hb2 k1_p_1 g1_p_1
  clear h0 h1 h2 h3 h4 h5 h6 h7 h8 h9 h10 h11
  have B2 := bel_step B1 hb2
  have z2 := Nat.le_trans z1 hb2.size
  clear hb2
  (try clear B1)
  (try clear z1)
  (try clear k1_a_0)
  (try clear g1_a_0)
  (try clear k1_a_1)
  (try clear g1_a_1)
  (try clear k1_b_0)
  (try clear g1_b_0)
  (try clear k1_b_1)
  (try clear g1_b_1)
  (try clear k1_p_0)
  (try clear g1_p_0)
  (try clear k1_p_1)
  (try clear g1_p_1)
  (try clear q1_a)
  (try clear x1_a)
  (try clear y1_a)
  (try clear q1_b)
  (try clear x1_b)
  (try clear y1_b)
  (try clear q1_p)
  (try clear x1_p)
  (try clear y1_p)
  have q2_a : w.heap.size < w2.heap.size := qlt k2_a_0
  have x2_a : ¬ w.heap.size = w2.heap.size := qne k2_a_0
  have y2_a : ¬ w2.heap.size = w.heap.size := fun h => qne k2_a_0 h.symm
  have q2_b : w.heap.size + 1 < w2.heap.size := qlt k2_b_0
  have x2_b : ¬ w.heap.size + 1 = w2.heap.size := qne k2_b_0
  have y2_b : ¬ w2.heap.size = w.heap.size + 1 := fun h => qne k2_b_0 h.symm
  have q2_p : w.heap.size + 1 + 1 < w2.heap.size := qlt k2_p_0
  have x2_p : ¬ w.heap.size + 1 + 1 = w2.heap.size := qne k2_p_0
  have y2_p : ¬ w2.heap.size = w.heap.size + 1 + 1 := fun h => qne k2_p_0 h.symm
  go_wp2
  go_ret
  refine ⟨rfl, ?_⟩
  repeat (first | with_reducible exact Below.refl _ _ | with_reducible exact B2 | with_reducible apply below_drewN | with_reducible apply Below.drew | (with_reducible refine Below.alloc ?_ (by first | (simp; done) | (simp; omega) | omega) _) | (with_reducible refine Below.setCell ?_ (by first | (simp; done) | (simp; omega) | omega) _))
end Go.Proofs.Ytahdnlebokmajaa
