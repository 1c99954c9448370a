import Derived.Test.YtgaabdidddglhaaN1
import Derived.WalkKit
import Derived.WalkSpells
import Derived.WalkLawsBesides
import Derived.Lib.Hide
import Derived.Below
import Derived.Deep.QuietTactic
import Derived.BigQuiet
import Derived.Deep.RegionHeld3
import Derived.Deep.DrawnRows
import Derived.Deep.DeepFit
import Derived.IntWalk
namespace Go.Proofs.Ytgaabdidddglhaa
open Go.RowKit
set_option linter.unusedVariables false
set_option linter.unusedSimpArgs false
attribute [local go_sem ↓] Go.wp_at_zero Go.wp_at_succ
attribute [local go_sem] rhoF_tmp rhoF_const rhoF_global rhoF_func

set_option maxHeartbeats 4000000 in
theorem hue10_any (x0 x1 x2 y0 y1 y2 a : Int) (a0 : 0 ≤ a) (a1 : a ≤ 65025) (x00 : 0 ≤ x0) (x01 : x0 ≤ a) (x10 : 0 ≤ x1) (x11 : x1 ≤ a) (x20 : 0 ≤ x2) (x21 : x2 ≤ a) (y00 : 0 ≤ y0) (y01 : y0 ≤ a) (y10 : 0 ≤ y1) (y11 : y1 ≤ a) (y20 : 0 ≤ y2) (y21 : y2 ≤ a) (w : World) :
    Calls Try.prog 47 #[.int .i64 10, .agg #[.int .i64 x0, .int .i64 x1, .int .i64 x2], .agg #[.int .i64 y0, .int .i64 y1, .int .i64 y2], .int .i64 a] w fun e w' => e = .returned (.agg #[.int .i64 x0, .int .i64 x1, .int .i64 x2, .int .i64 (max (max y0 y1) y2 - min (min y0 y1) y2), .int .i64 (30 * y0 + 59 * y1 + 11 * y2), .int .i64 a]) ∧ Below w.heap.size w w' := by
  have cs := fun w => sat_any y0 y1 y2 a a0 a1 y00 y01 y10 y11 y20 y21 w
  have cl := fun w => lum_any y0 y1 y2 a a0 a1 y00 y01 y10 y11 y20 y21 w
  obtain ⟨t, ht⟩ : ∃ x, max (max y0 y1) y2 - min (min y0 y1) y2 = x := ⟨_, rfl⟩
  obtain ⟨l, hl⟩ : ∃ x, 30 * y0 + 59 * y1 + 11 * y2 = x := ⟨_, rfl⟩
  rw [ht] at cs ⊢
  rw [hl] at cl ⊢
  clear ht hl
  go_enter Try.func47, Try.ntmps47
  go_wp2
  refine wp_region_env (fun w' => w'.cell? ⟨w.heap.size, 0, none⟩ = some (.int .i64 x0) ∧ w'.frozen? ⟨w.heap.size, 0, none⟩ = false ∧ w'.cell? ⟨w.heap.size, 1, none⟩ = some (.int .i64 x1) ∧ w'.frozen? ⟨w.heap.size, 1, none⟩ = false ∧ w'.cell? ⟨w.heap.size, 2, none⟩ = some (.int .i64 x2) ∧ w'.frozen? ⟨w.heap.size, 2, none⟩ = false ∧ w'.cell? ⟨w.heap.size + 1, 0, none⟩ = some (.int .i64 y0) ∧ w'.frozen? ⟨w.heap.size + 1, 0, none⟩ = false ∧ w'.cell? ⟨w.heap.size + 1, 1, none⟩ = some (.int .i64 y1) ∧ w'.frozen? ⟨w.heap.size + 1, 1, none⟩ = false ∧ w'.cell? ⟨w.heap.size + 1, 2, none⟩ = some (.int .i64 y2) ∧ w'.frozen? ⟨w.heap.size + 1, 2, none⟩ = false ∧ w'.cell? ⟨w.heap.size + 1 + 1, 0, none⟩ = some (.int .i64 0) ∧ w'.frozen? ⟨w.heap.size + 1 + 1, 0, none⟩ = false ∧ w'.cell? ⟨w.heap.size + 1 + 1, 1, none⟩ = some (.int .i64 0) ∧ w'.frozen? ⟨w.heap.size + 1 + 1, 1, none⟩ = false ∧ w'.cell? ⟨w.heap.size + 1 + 1, 2, none⟩ = some (.int .i64 0) ∧ w'.frozen? ⟨w.heap.size + 1 + 1, 2, none⟩ = false ∧ w'.cell? ⟨w.heap.size + 1 + 1, 3, none⟩ = some (.int .i64 0) ∧ w'.frozen? ⟨w.heap.size + 1 + 1, 3, none⟩ = false ∧ w'.cell? ⟨w.heap.size + 1 + 1, 4, none⟩ = some (.int .i64 0) ∧ w'.frozen? ⟨w.heap.size + 1 + 1, 4, none⟩ = false ∧ w'.cell? ⟨w.heap.size + 1 + 1, 5, none⟩ = some (.int .i64 0) ∧ w'.frozen? ⟨w.heap.size + 1 + 1, 5, none⟩ = false) (fun W => W.cell? ⟨w.heap.size, 0, none⟩ = some (.int .i64 x0) ∧ W.frozen? ⟨w.heap.size, 0, none⟩ = false ∧ W.cell? ⟨w.heap.size, 1, none⟩ = some (.int .i64 x1) ∧ W.frozen? ⟨w.heap.size, 1, none⟩ = false ∧ W.cell? ⟨w.heap.size, 2, none⟩ = some (.int .i64 x2) ∧ W.frozen? ⟨w.heap.size, 2, none⟩ = false ∧ W.cell? ⟨w.heap.size + 1, 0, none⟩ = some (.int .i64 y0) ∧ W.frozen? ⟨w.heap.size + 1, 0, none⟩ = false ∧ W.cell? ⟨w.heap.size + 1, 1, none⟩ = some (.int .i64 y1) ∧ W.frozen? ⟨w.heap.size + 1, 1, none⟩ = false ∧ W.cell? ⟨w.heap.size + 1, 2, none⟩ = some (.int .i64 y2) ∧ W.frozen? ⟨w.heap.size + 1, 2, none⟩ = false ∧ W.cell? ⟨w.heap.size + 1 + 1, 0, none⟩ = some (.int .i64 0) ∧ W.frozen? ⟨w.heap.size + 1 + 1, 0, none⟩ = false ∧ W.cell? ⟨w.heap.size + 1 + 1, 1, none⟩ = some (.int .i64 0) ∧ W.frozen? ⟨w.heap.size + 1 + 1, 1, none⟩ = false ∧ W.cell? ⟨w.heap.size + 1 + 1, 2, none⟩ = some (.int .i64 0) ∧ W.frozen? ⟨w.heap.size + 1 + 1, 2, none⟩ = false ∧ W.cell? ⟨w.heap.size + 1 + 1, 3, none⟩ = some (.int .i64 0) ∧ W.frozen? ⟨w.heap.size + 1 + 1, 3, none⟩ = false ∧ W.cell? ⟨w.heap.size + 1 + 1, 4, none⟩ = some (.int .i64 0) ∧ W.frozen? ⟨w.heap.size + 1 + 1, 4, none⟩ = false ∧ W.cell? ⟨w.heap.size + 1 + 1, 5, none⟩ = some (.int .i64 0) ∧ W.frozen? ⟨w.heap.size + 1 + 1, 5, none⟩ = false ∧ Below w.heap.size w W ∧ w.heap.size + 1 + 1 + 1 ≤ W.heap.size) 7 44 [.val (.agg #[.int .i64 x0, .int .i64 x1, .int .i64 x2]), .val (.agg #[.int .i64 y0, .int .i64 y1, .int .i64 y2]), .call 57 #[.agg #[.int .i64 y0, .int .i64 y1, .int .i64 y2]] (.int .i64 t), .val (.agg #[.int .i64 y0, .int .i64 y1, .int .i64 y2]), .call 58 #[.agg #[.int .i64 y0, .int .i64 y1, .int .i64 y2]] (.int .i64 l), .val (.int .i64 a), .val (.agg #[.int .i64 x0, .int .i64 x1, .int .i64 x2, .int .i64 t, .int .i64 l, .int .i64 a])] (by kernel_rfl) (by kernel_rfl) rfl (by kernel_rfl) (by rintro w1 w2 ⟨h0, h1, h2, h3, h4, h5, h6, h7, h8, h9, h10, h11, h12, h13, h14, h15, h16, h17, h18, h19, h20, h21, h22, h23⟩ hb; exact ⟨bcs hb h0, bfs hb h0 h1, bcs hb h2, bfs hb h2 h3, bcs hb h4, bfs hb h4 h5, bcs hb h6, bfs hb h6 h7, bcs hb h8, bfs hb h8 h9, bcs hb h10, bfs hb h10 h11, bcs hb h12, bfs hb h12 h13, bcs hb h14, bfs hb h14 h15, bcs hb h16, bfs hb h16 h17, bcs hb h18, bfs hb h18 h19, bcs hb h20, bfs hb h20 h21, bcs hb h22, bfs hb h22 h23⟩) ⟨by first | with_reducible assumption | go_simp, by first | with_reducible assumption | go_simp, by first | with_reducible assumption | go_simp, by first | with_reducible assumption | go_simp, by first | with_reducible assumption | go_simp, by first | with_reducible assumption | go_simp, by first | with_reducible assumption | go_simp, by first | with_reducible assumption | go_simp, by first | with_reducible assumption | go_simp, by first | with_reducible assumption | go_simp, by first | with_reducible assumption | go_simp, by first | with_reducible assumption | go_simp, by first | with_reducible assumption | go_simp, by first | with_reducible assumption | go_simp, by first | with_reducible assumption | go_simp, by first | with_reducible assumption | go_simp, by first | with_reducible assumption | go_simp, by first | with_reducible assumption | go_simp, by first | with_reducible assumption | go_simp, by first | with_reducible assumption | go_simp, by first | with_reducible assumption | go_simp, by first | with_reducible assumption | go_simp, by first | with_reducible assumption | go_simp, by first | with_reducible assumption | go_simp, by repeat (first | with_reducible exact Below.refl _ _ | fail | with_reducible apply below_drewN | with_reducible apply Below.drew | (with_reducible refine Below.alloc ?_ (by first | (simp; done) | (simp; omega) | omega) _) | (with_reducible refine Below.setCell ?_ (by first | (simp; done) | (simp; omega) | omega) _)), by first | with_reducible assumption | (simp; done) | (simp; omega)⟩ ?_ ?_
  · rintro W ⟨k1_b5_0, g1_b5_0, k1_b5_1, g1_b5_1, k1_b5_2, g1_b5_2, k1_b6_0, g1_b6_0, k1_b6_1, g1_b6_1, k1_b6_2, g1_b6_2, k1_b8_0, g1_b8_0, k1_b8_1, g1_b8_1, k1_b8_2, g1_b8_2, k1_b8_3, g1_b8_3, k1_b8_4, g1_b8_4, k1_b8_5, g1_b8_5, B1, z1⟩; exact ⟨k1_b5_0, g1_b5_0, k1_b5_1, g1_b5_1, k1_b5_2, g1_b5_2, k1_b6_0, g1_b6_0, k1_b6_1, g1_b6_1, k1_b6_2, g1_b6_2, k1_b8_0, g1_b8_0, k1_b8_1, g1_b8_1, k1_b8_2, g1_b8_2, k1_b8_3, g1_b8_3, k1_b8_4, g1_b8_4, k1_b8_5, g1_b8_5⟩
  rintro w1 ⟨k1_b5_0, g1_b5_0, k1_b5_1, g1_b5_1, k1_b5_2, g1_b5_2, k1_b6_0, g1_b6_0, k1_b6_1, g1_b6_1, k1_b6_2, g1_b6_2, k1_b8_0, g1_b8_0, k1_b8_1, g1_b8_1, k1_b8_2, g1_b8_2, k1_b8_3, g1_b8_3, k1_b8_4, g1_b8_4, k1_b8_5, g1_b8_5, B1, z1⟩ gg
  simp only [List.take_succ_cons, List.take_zero, List.drop_succ_cons, List.drop_zero, List.cons_append, List.nil_append, List.append_nil]
  refine obe_val (by rfl) ?_ ?_
  · clear k1_b5_0 g1_b5_0 k1_b5_1 g1_b5_1 k1_b5_2 g1_b5_2 k1_b6_0 g1_b6_0 k1_b6_1 g1_b6_1 k1_b6_2 g1_b6_2 k1_b8_0 g1_b8_0 k1_b8_1 g1_b8_1 k1_b8_2 g1_b8_2 k1_b8_3 g1_b8_3 k1_b8_4 g1_b8_4 k1_b8_5 g1_b8_5 B1 z1; intro f hf; have u5 : f 5 = (.pointer (some ⟨w.heap.size, 0, none⟩)) := (by rw [← hf]; rfl); clear hf; rintro w' ⟨h0, h1, h2, h3, h4, h5, h6, h7, h8, h9, h10, h11, h12, h13, h14, h15, h16, h17, h18, h19, h20, h21, h22, h23⟩; go_simp; try exact IntWalk.i64_in _ (by omega)
  refine obe_val (by rfl) ?_ ?_
  · clear k1_b5_0 g1_b5_0 k1_b5_1 g1_b5_1 k1_b5_2 g1_b5_2 k1_b6_0 g1_b6_0 k1_b6_1 g1_b6_1 k1_b6_2 g1_b6_2 k1_b8_0 g1_b8_0 k1_b8_1 g1_b8_1 k1_b8_2 g1_b8_2 k1_b8_3 g1_b8_3 k1_b8_4 g1_b8_4 k1_b8_5 g1_b8_5 B1 z1; intro f hf; have u6 : f 6 = (.pointer (some ⟨w.heap.size + 1, 0, none⟩)) := (by rw [← hf]; rfl); clear hf; rintro w' ⟨h0, h1, h2, h3, h4, h5, h6, h7, h8, h9, h10, h11, h12, h13, h14, h15, h16, h17, h18, h19, h20, h21, h22, h23⟩; go_simp; try exact IntWalk.i64_in _ (by omega)
  refine obe_call (by rfl) ?_ ?_ ?_
  · clear k1_b5_0 g1_b5_0 k1_b5_1 g1_b5_1 k1_b5_2 g1_b5_2 k1_b6_0 g1_b6_0 k1_b6_1 g1_b6_1 k1_b6_2 g1_b6_2 k1_b8_0 g1_b8_0 k1_b8_1 g1_b8_1 k1_b8_2 g1_b8_2 k1_b8_3 g1_b8_3 k1_b8_4 g1_b8_4 k1_b8_5 g1_b8_5 B1 z1; intro f hf; have u13 : f 13 = (.agg #[.int .i64 y0, .int .i64 y1, .int .i64 y2]) := (by rw [← hf]; rfl); clear hf; intro w' _; simp only [execOp, resolve, invoke, rhoF_tmp, rhoF_func, rhoF_const, u13, List.map_toArray, List.map_cons, List.map_nil]; go_simp
  · clear k1_b5_0 g1_b5_0 k1_b5_1 g1_b5_1 k1_b5_2 g1_b5_2 k1_b6_0 g1_b6_0 k1_b6_1 g1_b6_1 k1_b6_2 g1_b6_2 k1_b8_0 g1_b8_0 k1_b8_1 g1_b8_1 k1_b8_2 g1_b8_2 k1_b8_3 g1_b8_3 k1_b8_4 g1_b8_4 k1_b8_5 g1_b8_5 B1 z1; rintro w' ⟨h0, h1, h2, h3, h4, h5, h6, h7, h8, h9, h10, h11, h12, h13, h14, h15, h16, h17, h18, h19, h20, h21, h22, h23⟩; exact cs _
  refine obe_val (by rfl) ?_ ?_
  · clear k1_b5_0 g1_b5_0 k1_b5_1 g1_b5_1 k1_b5_2 g1_b5_2 k1_b6_0 g1_b6_0 k1_b6_1 g1_b6_1 k1_b6_2 g1_b6_2 k1_b8_0 g1_b8_0 k1_b8_1 g1_b8_1 k1_b8_2 g1_b8_2 k1_b8_3 g1_b8_3 k1_b8_4 g1_b8_4 k1_b8_5 g1_b8_5 B1 z1; intro f hf; have u6 : f 6 = (.pointer (some ⟨w.heap.size + 1, 0, none⟩)) := (by rw [← hf]; rfl); clear hf; rintro w' ⟨h0, h1, h2, h3, h4, h5, h6, h7, h8, h9, h10, h11, h12, h13, h14, h15, h16, h17, h18, h19, h20, h21, h22, h23⟩; go_simp; try exact IntWalk.i64_in _ (by omega)
  refine obe_call (by rfl) ?_ ?_ ?_
  · clear k1_b5_0 g1_b5_0 k1_b5_1 g1_b5_1 k1_b5_2 g1_b5_2 k1_b6_0 g1_b6_0 k1_b6_1 g1_b6_1 k1_b6_2 g1_b6_2 k1_b8_0 g1_b8_0 k1_b8_1 g1_b8_1 k1_b8_2 g1_b8_2 k1_b8_3 g1_b8_3 k1_b8_4 g1_b8_4 k1_b8_5 g1_b8_5 B1 z1; intro f hf; have u15 : f 15 = (.agg #[.int .i64 y0, .int .i64 y1, .int .i64 y2]) := (by rw [← hf]; rfl); clear hf; intro w' _; simp only [execOp, resolve, invoke, rhoF_tmp, rhoF_func, rhoF_const, u15, List.map_toArray, List.map_cons, List.map_nil]; go_simp
  · clear k1_b5_0 g1_b5_0 k1_b5_1 g1_b5_1 k1_b5_2 g1_b5_2 k1_b6_0 g1_b6_0 k1_b6_1 g1_b6_1 k1_b6_2 g1_b6_2 k1_b8_0 g1_b8_0 k1_b8_1 g1_b8_1 k1_b8_2 g1_b8_2 k1_b8_3 g1_b8_3 k1_b8_4 g1_b8_4 k1_b8_5 g1_b8_5 B1 z1; rintro w' ⟨h0, h1, h2, h3, h4, h5, h6, h7, h8, h9, h10, h11, h12, h13, h14, h15, h16, h17, h18, h19, h20, h21, h22, h23⟩; exact cl _
  refine obe_val (by rfl) ?_ ?_
  · clear k1_b5_0 g1_b5_0 k1_b5_1 g1_b5_1 k1_b5_2 g1_b5_2 k1_b6_0 g1_b6_0 k1_b6_1 g1_b6_1 k1_b6_2 g1_b6_2 k1_b8_0 g1_b8_0 k1_b8_1 g1_b8_1 k1_b8_2 g1_b8_2 k1_b8_3 g1_b8_3 k1_b8_4 g1_b8_4 k1_b8_5 g1_b8_5 B1 z1; intro f hf; have u3 : f 3 = (.int .i64 a) := (by rw [← hf]; rfl); clear hf; rintro w' ⟨h0, h1, h2, h3, h4, h5, h6, h7, h8, h9, h10, h11, h12, h13, h14, h15, h16, h17, h18, h19, h20, h21, h22, h23⟩; go_simp; try exact IntWalk.i64_in _ (by omega)
  refine obe_val (by rfl) ?_ ?_
  · clear k1_b5_0 g1_b5_0 k1_b5_1 g1_b5_1 k1_b5_2 g1_b5_2 k1_b6_0 g1_b6_0 k1_b6_1 g1_b6_1 k1_b6_2 g1_b6_2 k1_b8_0 g1_b8_0 k1_b8_1 g1_b8_1 k1_b8_2 g1_b8_2 k1_b8_3 g1_b8_3 k1_b8_4 g1_b8_4 k1_b8_5 g1_b8_5 B1 z1; intro f hf; have u12 : f 12 = (.agg #[.int .i64 x0, .int .i64 x1, .int .i64 x2]) := (by rw [← hf]; rfl); have u14 : f 14 = (.int .i64 t) := (by rw [← hf]; rfl); have u16 : f 16 = (.int .i64 l) := (by rw [← hf]; rfl); have u17 : f 17 = (.int .i64 a) := (by rw [← hf]; rfl); clear hf; rintro w' ⟨h0, h1, h2, h3, h4, h5, h6, h7, h8, h9, h10, h11, h12, h13, h14, h15, h16, h17, h18, h19, h20, h21, h22, h23⟩; go_simp; try exact IntWalk.i64_in _ (by omega)
  refine obe_nil ?_
  rintro w2 ⟨h0, h1, h2, h3, h4, h5, h6, h7, h8, h9, h10, h11, h12, h13, h14, h15, h16, h17, h18, h19, h20, h21, h22, h23⟩ hb2 hF
  (try simp only [List.nil_append, List.append_nil, List.cons_append] at hF)
  simp only [puts, putD, Act.put, List.setIfInBounds_toArray, List.set_cons_zero, List.set_cons_succ]
  clear hF
  have k2_b5_0 := bcs hb2 k1_b5_0
  have g2_b5_0 := bfs hb2 k1_b5_0 g1_b5_0
  have k2_b5_1 := bcs hb2 k1_b5_1
  have g2_b5_1 := bfs hb2 k1_b5_1 g1_b5_1
  have k2_b5_2 := bcs hb2 k1_b5_2
  have g2_b5_2 := bfs hb2 k1_b5_2 g1_b5_2
  have k2_b6_0 := bcs hb2 k1_b6_0
  have g2_b6_0 := bfs hb2 k1_b6_0 g1_b6_0
  have k2_b6_1 := bcs hb2 k1_b6_1
  have g2_b6_1 := bfs hb2 k1_b6_1 g1_b6_1
  have k2_b6_2 := bcs hb2 k1_b6_2
  have g2_b6_2 := bfs hb2 k1_b6_2 g1_b6_2
  have k2_b8_0 := bcs hb2 k1_b8_0
  have g2_b8_0 := bfs hb2 k1_b8_0 g1_b8_0
  have k2_b8_1 := bcs hb2 k1_b8_1
  have g2_b8_1 := bfs hb2 k1_b8_1 g1_b8_1
  have k2_b8_2 := bcs hb2 k1_b8_2
  have g2_b8_2 := bfs hb2 k1_b8_2 g1_b8_2
  have k2_b8_3 := bcs hb2 k1_b8_3
  have g2_b8_3 := bfs hb2 k1_b8_3 g1_b8_3
  have k2_b8_4 := bcs hb2 k1_b8_4
  have g2_b8_4 := bfs hb2 k1_b8_4 g1_b8_4
  have k2_b8_5 := bcs hb2 k1_b8_5
  have g2_b8_5 := bfs hb2 k1_b8_5 g1_b8_5
  clear h0 h1 h2 h3 h4 h5 h6 h7 h8 h9 h10 h11 h12 h13 h14 h15 h16 h17 h18 h19 h20 h21 h22 h23
  have B2 := bel_step B1 hb2
  have z2 := Nat.le_trans z1 hb2.size
  clear hb2
  (try clear B1)
  (try clear z1)
  (try clear k1_b5_0)
  (try clear g1_b5_0)
  (try clear k1_b5_1)
  (try clear g1_b5_1)
  (try clear k1_b5_2)
  (try clear g1_b5_2)
  (try clear k1_b6_0)
  (try clear g1_b6_0)
  (try clear k1_b6_1)
  (try clear g1_b6_1)
  (try clear k1_b6_2)
  (try clear g1_b6_2)
  (try clear k1_b8_0)
  (try clear g1_b8_0)
  (try clear k1_b8_1)
  (try clear g1_b8_1)
  (try clear k1_b8_2)
  (try clear g1_b8_2)
  (try clear k1_b8_3)
  (try clear g1_b8_3)
  (try clear k1_b8_4)
  (try clear g1_b8_4)
  (try clear k1_b8_5)
  (try clear g1_b8_5)
  (try clear q1_b5)
  (try clear x1_b5)
  (try clear y1_b5)
  (try clear q1_b6)
  (try clear x1_b6)
  (try clear y1_b6)
  (try clear q1_b8)
  (try clear x1_b8)
  (try clear y1_b8)
  have q2_b5 : w.heap.size < w2.heap.size := qlt k2_b5_0
  have x2_b5 : ¬ w.heap.size = w2.heap.size := qne k2_b5_0
  have y2_b5 : ¬ w2.heap.size = w.heap.size := fun h => qne k2_b5_0 h.symm
  have q2_b6 : w.heap.size + 1 < w2.heap.size := qlt k2_b6_0
  have x2_b6 : ¬ w.heap.size + 1 = w2.heap.size := qne k2_b6_0
  have y2_b6 : ¬ w2.heap.size = w.heap.size + 1 := fun h => qne k2_b6_0 h.symm
  have q2_b8 : w.heap.size + 1 + 1 < w2.heap.size := qlt k2_b8_0
  have x2_b8 : ¬ w.heap.size + 1 + 1 = w2.heap.size := qne k2_b8_0
  have y2_b8 : ¬ w2.heap.size = w.heap.size + 1 + 1 := fun h => qne k2_b8_0 h.symm
  go_wp2
  refine bodyPost_ret (v := .agg #[.int .i64 x0, .int .i64 x1, .int .i64 x2, .int .i64 t, .int .i64 l, .int .i64 a]) (by simp [results, Try.results47, go_sem, *]) rfl ⟨rfl, ?_⟩
  repeat (first | with_reducible exact Below.refl _ _ | with_reducible exact B2 | with_reducible apply below_drewN | with_reducible apply Below.drew | (with_reducible refine Below.alloc ?_ (by first | (simp; done) | (simp; omega) | omega) _) | (with_reducible refine Below.setCell ?_ (by first | (simp; done) | (simp; omega) | omega) _))

set_option maxHeartbeats 4000000 in
theorem hue11_any (x0 x1 x2 y0 y1 y2 a : Int) (a0 : 0 ≤ a) (a1 : a ≤ 65025) (x00 : 0 ≤ x0) (x01 : x0 ≤ a) (x10 : 0 ≤ x1) (x11 : x1 ≤ a) (x20 : 0 ≤ x2) (x21 : x2 ≤ a) (y00 : 0 ≤ y0) (y01 : y0 ≤ a) (y10 : 0 ≤ y1) (y11 : y1 ≤ a) (y20 : 0 ≤ y2) (y21 : y2 ≤ a) (w : World) :
    Calls Try.prog 47 #[.int .i64 11, .agg #[.int .i64 x0, .int .i64 x1, .int .i64 x2], .agg #[.int .i64 y0, .int .i64 y1, .int .i64 y2], .int .i64 a] w fun e w' => e = .returned (.agg #[.int .i64 y0, .int .i64 y1, .int .i64 y2, .int .i64 (max (max x0 x1) x2 - min (min x0 x1) x2), .int .i64 (30 * y0 + 59 * y1 + 11 * y2), .int .i64 a]) ∧ Below w.heap.size w w' := by
  have cs := fun w => sat_any x0 x1 x2 a a0 a1 x00 x01 x10 x11 x20 x21 w
  have cl := fun w => lum_any y0 y1 y2 a a0 a1 y00 y01 y10 y11 y20 y21 w
  obtain ⟨t, ht⟩ : ∃ x, max (max x0 x1) x2 - min (min x0 x1) x2 = x := ⟨_, rfl⟩
  obtain ⟨l, hl⟩ : ∃ x, 30 * y0 + 59 * y1 + 11 * y2 = x := ⟨_, rfl⟩
  rw [ht] at cs ⊢
  rw [hl] at cl ⊢
  clear ht hl
  go_enter Try.func47, Try.ntmps47
  go_wp2
  refine wp_region_env (fun w' => w'.cell? ⟨w.heap.size, 0, none⟩ = some (.int .i64 x0) ∧ w'.frozen? ⟨w.heap.size, 0, none⟩ = false ∧ w'.cell? ⟨w.heap.size, 1, none⟩ = some (.int .i64 x1) ∧ w'.frozen? ⟨w.heap.size, 1, none⟩ = false ∧ w'.cell? ⟨w.heap.size, 2, none⟩ = some (.int .i64 x2) ∧ w'.frozen? ⟨w.heap.size, 2, none⟩ = false ∧ w'.cell? ⟨w.heap.size + 1, 0, none⟩ = some (.int .i64 y0) ∧ w'.frozen? ⟨w.heap.size + 1, 0, none⟩ = false ∧ w'.cell? ⟨w.heap.size + 1, 1, none⟩ = some (.int .i64 y1) ∧ w'.frozen? ⟨w.heap.size + 1, 1, none⟩ = false ∧ w'.cell? ⟨w.heap.size + 1, 2, none⟩ = some (.int .i64 y2) ∧ w'.frozen? ⟨w.heap.size + 1, 2, none⟩ = false ∧ w'.cell? ⟨w.heap.size + 1 + 1, 0, none⟩ = some (.int .i64 0) ∧ w'.frozen? ⟨w.heap.size + 1 + 1, 0, none⟩ = false ∧ w'.cell? ⟨w.heap.size + 1 + 1, 1, none⟩ = some (.int .i64 0) ∧ w'.frozen? ⟨w.heap.size + 1 + 1, 1, none⟩ = false ∧ w'.cell? ⟨w.heap.size + 1 + 1, 2, none⟩ = some (.int .i64 0) ∧ w'.frozen? ⟨w.heap.size + 1 + 1, 2, none⟩ = false ∧ w'.cell? ⟨w.heap.size + 1 + 1, 3, none⟩ = some (.int .i64 0) ∧ w'.frozen? ⟨w.heap.size + 1 + 1, 3, none⟩ = false ∧ w'.cell? ⟨w.heap.size + 1 + 1, 4, none⟩ = some (.int .i64 0) ∧ w'.frozen? ⟨w.heap.size + 1 + 1, 4, none⟩ = false ∧ w'.cell? ⟨w.heap.size + 1 + 1, 5, none⟩ = some (.int .i64 0) ∧ w'.frozen? ⟨w.heap.size + 1 + 1, 5, none⟩ = false) (fun W => W.cell? ⟨w.heap.size, 0, none⟩ = some (.int .i64 x0) ∧ W.frozen? ⟨w.heap.size, 0, none⟩ = false ∧ W.cell? ⟨w.heap.size, 1, none⟩ = some (.int .i64 x1) ∧ W.frozen? ⟨w.heap.size, 1, none⟩ = false ∧ W.cell? ⟨w.heap.size, 2, none⟩ = some (.int .i64 x2) ∧ W.frozen? ⟨w.heap.size, 2, none⟩ = false ∧ W.cell? ⟨w.heap.size + 1, 0, none⟩ = some (.int .i64 y0) ∧ W.frozen? ⟨w.heap.size + 1, 0, none⟩ = false ∧ W.cell? ⟨w.heap.size + 1, 1, none⟩ = some (.int .i64 y1) ∧ W.frozen? ⟨w.heap.size + 1, 1, none⟩ = false ∧ W.cell? ⟨w.heap.size + 1, 2, none⟩ = some (.int .i64 y2) ∧ W.frozen? ⟨w.heap.size + 1, 2, none⟩ = false ∧ W.cell? ⟨w.heap.size + 1 + 1, 0, none⟩ = some (.int .i64 0) ∧ W.frozen? ⟨w.heap.size + 1 + 1, 0, none⟩ = false ∧ W.cell? ⟨w.heap.size + 1 + 1, 1, none⟩ = some (.int .i64 0) ∧ W.frozen? ⟨w.heap.size + 1 + 1, 1, none⟩ = false ∧ W.cell? ⟨w.heap.size + 1 + 1, 2, none⟩ = some (.int .i64 0) ∧ W.frozen? ⟨w.heap.size + 1 + 1, 2, none⟩ = false ∧ W.cell? ⟨w.heap.size + 1 + 1, 3, none⟩ = some (.int .i64 0) ∧ W.frozen? ⟨w.heap.size + 1 + 1, 3, none⟩ = false ∧ W.cell? ⟨w.heap.size + 1 + 1, 4, none⟩ = some (.int .i64 0) ∧ W.frozen? ⟨w.heap.size + 1 + 1, 4, none⟩ = false ∧ W.cell? ⟨w.heap.size + 1 + 1, 5, none⟩ = some (.int .i64 0) ∧ W.frozen? ⟨w.heap.size + 1 + 1, 5, none⟩ = false ∧ Below w.heap.size w W ∧ w.heap.size + 1 + 1 + 1 ≤ W.heap.size) 7 44 [.val (.agg #[.int .i64 y0, .int .i64 y1, .int .i64 y2]), .val (.agg #[.int .i64 x0, .int .i64 x1, .int .i64 x2]), .call 57 #[.agg #[.int .i64 x0, .int .i64 x1, .int .i64 x2]] (.int .i64 t), .val (.agg #[.int .i64 y0, .int .i64 y1, .int .i64 y2]), .call 58 #[.agg #[.int .i64 y0, .int .i64 y1, .int .i64 y2]] (.int .i64 l), .val (.int .i64 a), .val (.agg #[.int .i64 y0, .int .i64 y1, .int .i64 y2, .int .i64 t, .int .i64 l, .int .i64 a])] (by kernel_rfl) (by kernel_rfl) rfl (by kernel_rfl) (by rintro w1 w2 ⟨h0, h1, h2, h3, h4, h5, h6, h7, h8, h9, h10, h11, h12, h13, h14, h15, h16, h17, h18, h19, h20, h21, h22, h23⟩ hb; exact ⟨bcs hb h0, bfs hb h0 h1, bcs hb h2, bfs hb h2 h3, bcs hb h4, bfs hb h4 h5, bcs hb h6, bfs hb h6 h7, bcs hb h8, bfs hb h8 h9, bcs hb h10, bfs hb h10 h11, bcs hb h12, bfs hb h12 h13, bcs hb h14, bfs hb h14 h15, bcs hb h16, bfs hb h16 h17, bcs hb h18, bfs hb h18 h19, bcs hb h20, bfs hb h20 h21, bcs hb h22, bfs hb h22 h23⟩) ⟨by first | with_reducible assumption | go_simp, by first | with_reducible assumption | go_simp, by first | with_reducible assumption | go_simp, by first | with_reducible assumption | go_simp, by first | with_reducible assumption | go_simp, by first | with_reducible assumption | go_simp, by first | with_reducible assumption | go_simp, by first | with_reducible assumption | go_simp, by first | with_reducible assumption | go_simp, by first | with_reducible assumption | go_simp, by first | with_reducible assumption | go_simp, by first | with_reducible assumption | go_simp, by first | with_reducible assumption | go_simp, by first | with_reducible assumption | go_simp, by first | with_reducible assumption | go_simp, by first | with_reducible assumption | go_simp, by first | with_reducible assumption | go_simp, by first | with_reducible assumption | go_simp, by first | with_reducible assumption | go_simp, by first | with_reducible assumption | go_simp, by first | with_reducible assumption | go_simp, by first | with_reducible assumption | go_simp, by first | with_reducible assumption | go_simp, by first | with_reducible assumption | go_simp, by repeat (first | with_reducible exact Below.refl _ _ | fail | with_reducible apply below_drewN | with_reducible apply Below.drew | (with_reducible refine Below.alloc ?_ (by first | (simp; done) | (simp; omega) | omega) _) | (with_reducible refine Below.setCell ?_ (by first | (simp; done) | (simp; omega) | omega) _)), by first | with_reducible assumption | (simp; done) | (simp; omega)⟩ ?_ ?_
  · rintro W ⟨k1_b5_0, g1_b5_0, k1_b5_1, g1_b5_1, k1_b5_2, g1_b5_2, k1_b6_0, g1_b6_0, k1_b6_1, g1_b6_1, k1_b6_2, g1_b6_2, k1_b8_0, g1_b8_0, k1_b8_1, g1_b8_1, k1_b8_2, g1_b8_2, k1_b8_3, g1_b8_3, k1_b8_4, g1_b8_4, k1_b8_5, g1_b8_5, B1, z1⟩; exact ⟨k1_b5_0, g1_b5_0, k1_b5_1, g1_b5_1, k1_b5_2, g1_b5_2, k1_b6_0, g1_b6_0, k1_b6_1, g1_b6_1, k1_b6_2, g1_b6_2, k1_b8_0, g1_b8_0, k1_b8_1, g1_b8_1, k1_b8_2, g1_b8_2, k1_b8_3, g1_b8_3, k1_b8_4, g1_b8_4, k1_b8_5, g1_b8_5⟩
  rintro w1 ⟨k1_b5_0, g1_b5_0, k1_b5_1, g1_b5_1, k1_b5_2, g1_b5_2, k1_b6_0, g1_b6_0, k1_b6_1, g1_b6_1, k1_b6_2, g1_b6_2, k1_b8_0, g1_b8_0, k1_b8_1, g1_b8_1, k1_b8_2, g1_b8_2, k1_b8_3, g1_b8_3, k1_b8_4, g1_b8_4, k1_b8_5, g1_b8_5, B1, z1⟩ gg
  simp only [List.take_succ_cons, List.take_zero, List.drop_succ_cons, List.drop_zero, List.cons_append, List.nil_append, List.append_nil]
  refine obe_val (by rfl) ?_ ?_
  · clear k1_b5_0 g1_b5_0 k1_b5_1 g1_b5_1 k1_b5_2 g1_b5_2 k1_b6_0 g1_b6_0 k1_b6_1 g1_b6_1 k1_b6_2 g1_b6_2 k1_b8_0 g1_b8_0 k1_b8_1 g1_b8_1 k1_b8_2 g1_b8_2 k1_b8_3 g1_b8_3 k1_b8_4 g1_b8_4 k1_b8_5 g1_b8_5 B1 z1; intro f hf; have u6 : f 6 = (.pointer (some ⟨w.heap.size + 1, 0, none⟩)) := (by rw [← hf]; rfl); clear hf; rintro w' ⟨h0, h1, h2, h3, h4, h5, h6, h7, h8, h9, h10, h11, h12, h13, h14, h15, h16, h17, h18, h19, h20, h21, h22, h23⟩; go_simp; try exact IntWalk.i64_in _ (by omega)
  refine obe_val (by rfl) ?_ ?_
  · clear k1_b5_0 g1_b5_0 k1_b5_1 g1_b5_1 k1_b5_2 g1_b5_2 k1_b6_0 g1_b6_0 k1_b6_1 g1_b6_1 k1_b6_2 g1_b6_2 k1_b8_0 g1_b8_0 k1_b8_1 g1_b8_1 k1_b8_2 g1_b8_2 k1_b8_3 g1_b8_3 k1_b8_4 g1_b8_4 k1_b8_5 g1_b8_5 B1 z1; intro f hf; have u5 : f 5 = (.pointer (some ⟨w.heap.size, 0, none⟩)) := (by rw [← hf]; rfl); clear hf; rintro w' ⟨h0, h1, h2, h3, h4, h5, h6, h7, h8, h9, h10, h11, h12, h13, h14, h15, h16, h17, h18, h19, h20, h21, h22, h23⟩; go_simp; try exact IntWalk.i64_in _ (by omega)
  refine obe_call (by rfl) ?_ ?_ ?_
  · clear k1_b5_0 g1_b5_0 k1_b5_1 g1_b5_1 k1_b5_2 g1_b5_2 k1_b6_0 g1_b6_0 k1_b6_1 g1_b6_1 k1_b6_2 g1_b6_2 k1_b8_0 g1_b8_0 k1_b8_1 g1_b8_1 k1_b8_2 g1_b8_2 k1_b8_3 g1_b8_3 k1_b8_4 g1_b8_4 k1_b8_5 g1_b8_5 B1 z1; intro f hf; have u22 : f 22 = (.agg #[.int .i64 x0, .int .i64 x1, .int .i64 x2]) := (by rw [← hf]; rfl); clear hf; intro w' _; simp only [execOp, resolve, invoke, rhoF_tmp, rhoF_func, rhoF_const, u22, List.map_toArray, List.map_cons, List.map_nil]; go_simp
  · clear k1_b5_0 g1_b5_0 k1_b5_1 g1_b5_1 k1_b5_2 g1_b5_2 k1_b6_0 g1_b6_0 k1_b6_1 g1_b6_1 k1_b6_2 g1_b6_2 k1_b8_0 g1_b8_0 k1_b8_1 g1_b8_1 k1_b8_2 g1_b8_2 k1_b8_3 g1_b8_3 k1_b8_4 g1_b8_4 k1_b8_5 g1_b8_5 B1 z1; rintro w' ⟨h0, h1, h2, h3, h4, h5, h6, h7, h8, h9, h10, h11, h12, h13, h14, h15, h16, h17, h18, h19, h20, h21, h22, h23⟩; exact cs _
  refine obe_val (by rfl) ?_ ?_
  · clear k1_b5_0 g1_b5_0 k1_b5_1 g1_b5_1 k1_b5_2 g1_b5_2 k1_b6_0 g1_b6_0 k1_b6_1 g1_b6_1 k1_b6_2 g1_b6_2 k1_b8_0 g1_b8_0 k1_b8_1 g1_b8_1 k1_b8_2 g1_b8_2 k1_b8_3 g1_b8_3 k1_b8_4 g1_b8_4 k1_b8_5 g1_b8_5 B1 z1; intro f hf; have u6 : f 6 = (.pointer (some ⟨w.heap.size + 1, 0, none⟩)) := (by rw [← hf]; rfl); clear hf; rintro w' ⟨h0, h1, h2, h3, h4, h5, h6, h7, h8, h9, h10, h11, h12, h13, h14, h15, h16, h17, h18, h19, h20, h21, h22, h23⟩; go_simp; try exact IntWalk.i64_in _ (by omega)
  refine obe_call (by rfl) ?_ ?_ ?_
  · clear k1_b5_0 g1_b5_0 k1_b5_1 g1_b5_1 k1_b5_2 g1_b5_2 k1_b6_0 g1_b6_0 k1_b6_1 g1_b6_1 k1_b6_2 g1_b6_2 k1_b8_0 g1_b8_0 k1_b8_1 g1_b8_1 k1_b8_2 g1_b8_2 k1_b8_3 g1_b8_3 k1_b8_4 g1_b8_4 k1_b8_5 g1_b8_5 B1 z1; intro f hf; have u24 : f 24 = (.agg #[.int .i64 y0, .int .i64 y1, .int .i64 y2]) := (by rw [← hf]; rfl); clear hf; intro w' _; simp only [execOp, resolve, invoke, rhoF_tmp, rhoF_func, rhoF_const, u24, List.map_toArray, List.map_cons, List.map_nil]; go_simp
  · clear k1_b5_0 g1_b5_0 k1_b5_1 g1_b5_1 k1_b5_2 g1_b5_2 k1_b6_0 g1_b6_0 k1_b6_1 g1_b6_1 k1_b6_2 g1_b6_2 k1_b8_0 g1_b8_0 k1_b8_1 g1_b8_1 k1_b8_2 g1_b8_2 k1_b8_3 g1_b8_3 k1_b8_4 g1_b8_4 k1_b8_5 g1_b8_5 B1 z1; rintro w' ⟨h0, h1, h2, h3, h4, h5, h6, h7, h8, h9, h10, h11, h12, h13, h14, h15, h16, h17, h18, h19, h20, h21, h22, h23⟩; exact cl _
  refine obe_val (by rfl) ?_ ?_
  · clear k1_b5_0 g1_b5_0 k1_b5_1 g1_b5_1 k1_b5_2 g1_b5_2 k1_b6_0 g1_b6_0 k1_b6_1 g1_b6_1 k1_b6_2 g1_b6_2 k1_b8_0 g1_b8_0 k1_b8_1 g1_b8_1 k1_b8_2 g1_b8_2 k1_b8_3 g1_b8_3 k1_b8_4 g1_b8_4 k1_b8_5 g1_b8_5 B1 z1; intro f hf; have u3 : f 3 = (.int .i64 a) := (by rw [← hf]; rfl); clear hf; rintro w' ⟨h0, h1, h2, h3, h4, h5, h6, h7, h8, h9, h10, h11, h12, h13, h14, h15, h16, h17, h18, h19, h20, h21, h22, h23⟩; go_simp; try exact IntWalk.i64_in _ (by omega)
  refine obe_val (by rfl) ?_ ?_
  · clear k1_b5_0 g1_b5_0 k1_b5_1 g1_b5_1 k1_b5_2 g1_b5_2 k1_b6_0 g1_b6_0 k1_b6_1 g1_b6_1 k1_b6_2 g1_b6_2 k1_b8_0 g1_b8_0 k1_b8_1 g1_b8_1 k1_b8_2 g1_b8_2 k1_b8_3 g1_b8_3 k1_b8_4 g1_b8_4 k1_b8_5 g1_b8_5 B1 z1; intro f hf; have u21 : f 21 = (.agg #[.int .i64 y0, .int .i64 y1, .int .i64 y2]) := (by rw [← hf]; rfl); have u23 : f 23 = (.int .i64 t) := (by rw [← hf]; rfl); have u25 : f 25 = (.int .i64 l) := (by rw [← hf]; rfl); have u26 : f 26 = (.int .i64 a) := (by rw [← hf]; rfl); clear hf; rintro w' ⟨h0, h1, h2, h3, h4, h5, h6, h7, h8, h9, h10, h11, h12, h13, h14, h15, h16, h17, h18, h19, h20, h21, h22, h23⟩; go_simp; try exact IntWalk.i64_in _ (by omega)
  refine obe_nil ?_
  rintro w2 ⟨h0, h1, h2, h3, h4, h5, h6, h7, h8, h9, h10, h11, h12, h13, h14, h15, h16, h17, h18, h19, h20, h21, h22, h23⟩ hb2 hF
  (try simp only [List.nil_append, List.append_nil, List.cons_append] at hF)
  simp only [puts, putD, Act.put, List.setIfInBounds_toArray, List.set_cons_zero, List.set_cons_succ]
  clear hF
  have k2_b5_0 := bcs hb2 k1_b5_0
  have g2_b5_0 := bfs hb2 k1_b5_0 g1_b5_0
  have k2_b5_1 := bcs hb2 k1_b5_1
  have g2_b5_1 := bfs hb2 k1_b5_1 g1_b5_1
  have k2_b5_2 := bcs hb2 k1_b5_2
  have g2_b5_2 := bfs hb2 k1_b5_2 g1_b5_2
  have k2_b6_0 := bcs hb2 k1_b6_0
  have g2_b6_0 := bfs hb2 k1_b6_0 g1_b6_0
  have k2_b6_1 := bcs hb2 k1_b6_1
  have g2_b6_1 := bfs hb2 k1_b6_1 g1_b6_1
  have k2_b6_2 := bcs hb2 k1_b6_2
  have g2_b6_2 := bfs hb2 k1_b6_2 g1_b6_2
  have k2_b8_0 := bcs hb2 k1_b8_0
  have g2_b8_0 := bfs hb2 k1_b8_0 g1_b8_0
  have k2_b8_1 := bcs hb2 k1_b8_1
  have g2_b8_1 := bfs hb2 k1_b8_1 g1_b8_1
  have k2_b8_2 := bcs hb2 k1_b8_2
  have g2_b8_2 := bfs hb2 k1_b8_2 g1_b8_2
  have k2_b8_3 := bcs hb2 k1_b8_3
  have g2_b8_3 := bfs hb2 k1_b8_3 g1_b8_3
  have k2_b8_4 := bcs hb2 k1_b8_4
  have g2_b8_4 := bfs hb2 k1_b8_4 g1_b8_4
  have k2_b8_5 := bcs hb2 k1_b8_5
  have g2_b8_5 := bfs hb2 k1_b8_5 g1_b8_5
  clear h0 h1 h2 h3 h4 h5 h6 h7 h8 h9 h10 h11 h12 h13 h14 h15 h16 h17 h18 h19 h20 h21 h22 h23
  have B2 := bel_step B1 hb2
  have z2 := Nat.le_trans z1 hb2.size
  clear hb2
  (try clear B1)
  (try clear z1)
  (try clear k1_b5_0)
  (try clear g1_b5_0)
  (try clear k1_b5_1)
  (try clear g1_b5_1)
  (try clear k1_b5_2)
  (try clear g1_b5_2)
  (try clear k1_b6_0)
  (try clear g1_b6_0)
  (try clear k1_b6_1)
  (try clear g1_b6_1)
  (try clear k1_b6_2)
  (try clear g1_b6_2)
  (try clear k1_b8_0)
  (try clear g1_b8_0)
  (try clear k1_b8_1)
  (try clear g1_b8_1)
  (try clear k1_b8_2)
  (try clear g1_b8_2)
  (try clear k1_b8_3)
  (try clear g1_b8_3)
  (try clear k1_b8_4)
  (try clear g1_b8_4)
  (try clear k1_b8_5)
  (try clear g1_b8_5)
  (try clear q1_b5)
  (try clear x1_b5)
  (try clear y1_b5)
  (try clear q1_b6)
  (try clear x1_b6)
  (try clear y1_b6)
  (try clear q1_b8)
  (try clear x1_b8)
  (try clear y1_b8)
  have q2_b5 : w.heap.size < w2.heap.size := qlt k2_b5_0
  have x2_b5 : ¬ w.heap.size = w2.heap.size := qne k2_b5_0
  have y2_b5 : ¬ w2.heap.size = w.heap.size := fun h => qne k2_b5_0 h.symm
  have q2_b6 : w.heap.size + 1 < w2.heap.size := qlt k2_b6_0
  have x2_b6 : ¬ w.heap.size + 1 = w2.heap.size := qne k2_b6_0
  have y2_b6 : ¬ w2.heap.size = w.heap.size + 1 := fun h => qne k2_b6_0 h.symm
  have q2_b8 : w.heap.size + 1 + 1 < w2.heap.size := qlt k2_b8_0
  have x2_b8 : ¬ w.heap.size + 1 + 1 = w2.heap.size := qne k2_b8_0
  have y2_b8 : ¬ w2.heap.size = w.heap.size + 1 + 1 := fun h => qne k2_b8_0 h.symm
  go_wp2
  refine bodyPost_ret (v := .agg #[.int .i64 y0, .int .i64 y1, .int .i64 y2, .int .i64 t, .int .i64 l, .int .i64 a]) (by simp [results, Try.results47, go_sem, *]) rfl ⟨rfl, ?_⟩
  repeat (first | with_reducible exact Below.refl _ _ | with_reducible exact B2 | with_reducible apply below_drewN | with_reducible apply Below.drew | (with_reducible refine Below.alloc ?_ (by first | (simp; done) | (simp; omega) | omega) _) | (with_reducible refine Below.setCell ?_ (by first | (simp; done) | (simp; omega) | omega) _))

set_option maxHeartbeats 4000000 in
theorem hue12_any (x0 x1 x2 y0 y1 y2 a : Int) (a0 : 0 ≤ a) (a1 : a ≤ 65025) (x00 : 0 ≤ x0) (x01 : x0 ≤ a) (x10 : 0 ≤ x1) (x11 : x1 ≤ a) (x20 : 0 ≤ x2) (x21 : x2 ≤ a) (y00 : 0 ≤ y0) (y01 : y0 ≤ a) (y10 : 0 ≤ y1) (y11 : y1 ≤ a) (y20 : 0 ≤ y2) (y21 : y2 ≤ a) (w : World) :
    Calls Try.prog 47 #[.int .i64 12, .agg #[.int .i64 x0, .int .i64 x1, .int .i64 x2], .agg #[.int .i64 y0, .int .i64 y1, .int .i64 y2], .int .i64 a] w fun e w' => e = .returned (.agg #[.int .i64 x0, .int .i64 x1, .int .i64 x2, .int .i64 (max (max x0 x1) x2 - min (min x0 x1) x2), .int .i64 (30 * y0 + 59 * y1 + 11 * y2), .int .i64 a]) ∧ Below w.heap.size w w' := by
  have cs := fun w => sat_any x0 x1 x2 a a0 a1 x00 x01 x10 x11 x20 x21 w
  have cl := fun w => lum_any y0 y1 y2 a a0 a1 y00 y01 y10 y11 y20 y21 w
  obtain ⟨t, ht⟩ : ∃ x, max (max x0 x1) x2 - min (min x0 x1) x2 = x := ⟨_, rfl⟩
  obtain ⟨l, hl⟩ : ∃ x, 30 * y0 + 59 * y1 + 11 * y2 = x := ⟨_, rfl⟩
  rw [ht] at cs ⊢
  rw [hl] at cl ⊢
  clear ht hl
  go_enter Try.func47, Try.ntmps47
  go_wp2
  refine wp_region_env (fun w' => w'.cell? ⟨w.heap.size, 0, none⟩ = some (.int .i64 x0) ∧ w'.frozen? ⟨w.heap.size, 0, none⟩ = false ∧ w'.cell? ⟨w.heap.size, 1, none⟩ = some (.int .i64 x1) ∧ w'.frozen? ⟨w.heap.size, 1, none⟩ = false ∧ w'.cell? ⟨w.heap.size, 2, none⟩ = some (.int .i64 x2) ∧ w'.frozen? ⟨w.heap.size, 2, none⟩ = false ∧ w'.cell? ⟨w.heap.size + 1, 0, none⟩ = some (.int .i64 y0) ∧ w'.frozen? ⟨w.heap.size + 1, 0, none⟩ = false ∧ w'.cell? ⟨w.heap.size + 1, 1, none⟩ = some (.int .i64 y1) ∧ w'.frozen? ⟨w.heap.size + 1, 1, none⟩ = false ∧ w'.cell? ⟨w.heap.size + 1, 2, none⟩ = some (.int .i64 y2) ∧ w'.frozen? ⟨w.heap.size + 1, 2, none⟩ = false ∧ w'.cell? ⟨w.heap.size + 1 + 1, 0, none⟩ = some (.int .i64 0) ∧ w'.frozen? ⟨w.heap.size + 1 + 1, 0, none⟩ = false ∧ w'.cell? ⟨w.heap.size + 1 + 1, 1, none⟩ = some (.int .i64 0) ∧ w'.frozen? ⟨w.heap.size + 1 + 1, 1, none⟩ = false ∧ w'.cell? ⟨w.heap.size + 1 + 1, 2, none⟩ = some (.int .i64 0) ∧ w'.frozen? ⟨w.heap.size + 1 + 1, 2, none⟩ = false ∧ w'.cell? ⟨w.heap.size + 1 + 1, 3, none⟩ = some (.int .i64 0) ∧ w'.frozen? ⟨w.heap.size + 1 + 1, 3, none⟩ = false ∧ w'.cell? ⟨w.heap.size + 1 + 1, 4, none⟩ = some (.int .i64 0) ∧ w'.frozen? ⟨w.heap.size + 1 + 1, 4, none⟩ = false ∧ w'.cell? ⟨w.heap.size + 1 + 1, 5, none⟩ = some (.int .i64 0) ∧ w'.frozen? ⟨w.heap.size + 1 + 1, 5, none⟩ = false) (fun W => W.cell? ⟨w.heap.size, 0, none⟩ = some (.int .i64 x0) ∧ W.frozen? ⟨w.heap.size, 0, none⟩ = false ∧ W.cell? ⟨w.heap.size, 1, none⟩ = some (.int .i64 x1) ∧ W.frozen? ⟨w.heap.size, 1, none⟩ = false ∧ W.cell? ⟨w.heap.size, 2, none⟩ = some (.int .i64 x2) ∧ W.frozen? ⟨w.heap.size, 2, none⟩ = false ∧ W.cell? ⟨w.heap.size + 1, 0, none⟩ = some (.int .i64 y0) ∧ W.frozen? ⟨w.heap.size + 1, 0, none⟩ = false ∧ W.cell? ⟨w.heap.size + 1, 1, none⟩ = some (.int .i64 y1) ∧ W.frozen? ⟨w.heap.size + 1, 1, none⟩ = false ∧ W.cell? ⟨w.heap.size + 1, 2, none⟩ = some (.int .i64 y2) ∧ W.frozen? ⟨w.heap.size + 1, 2, none⟩ = false ∧ W.cell? ⟨w.heap.size + 1 + 1, 0, none⟩ = some (.int .i64 0) ∧ W.frozen? ⟨w.heap.size + 1 + 1, 0, none⟩ = false ∧ W.cell? ⟨w.heap.size + 1 + 1, 1, none⟩ = some (.int .i64 0) ∧ W.frozen? ⟨w.heap.size + 1 + 1, 1, none⟩ = false ∧ W.cell? ⟨w.heap.size + 1 + 1, 2, none⟩ = some (.int .i64 0) ∧ W.frozen? ⟨w.heap.size + 1 + 1, 2, none⟩ = false ∧ W.cell? ⟨w.heap.size + 1 + 1, 3, none⟩ = some (.int .i64 0) ∧ W.frozen? ⟨w.heap.size + 1 + 1, 3, none⟩ = false ∧ W.cell? ⟨w.heap.size + 1 + 1, 4, none⟩ = some (.int .i64 0) ∧ W.frozen? ⟨w.heap.size + 1 + 1, 4, none⟩ = false ∧ W.cell? ⟨w.heap.size + 1 + 1, 5, none⟩ = some (.int .i64 0) ∧ W.frozen? ⟨w.heap.size + 1 + 1, 5, none⟩ = false ∧ Below w.heap.size w W ∧ w.heap.size + 1 + 1 + 1 ≤ W.heap.size) 7 44 [.val (.agg #[.int .i64 x0, .int .i64 x1, .int .i64 x2]), .val (.agg #[.int .i64 x0, .int .i64 x1, .int .i64 x2]), .call 57 #[.agg #[.int .i64 x0, .int .i64 x1, .int .i64 x2]] (.int .i64 t), .val (.agg #[.int .i64 y0, .int .i64 y1, .int .i64 y2]), .call 58 #[.agg #[.int .i64 y0, .int .i64 y1, .int .i64 y2]] (.int .i64 l), .val (.int .i64 a), .val (.agg #[.int .i64 x0, .int .i64 x1, .int .i64 x2, .int .i64 t, .int .i64 l, .int .i64 a])] (by kernel_rfl) (by kernel_rfl) rfl (by kernel_rfl) (by rintro w1 w2 ⟨h0, h1, h2, h3, h4, h5, h6, h7, h8, h9, h10, h11, h12, h13, h14, h15, h16, h17, h18, h19, h20, h21, h22, h23⟩ hb; exact ⟨bcs hb h0, bfs hb h0 h1, bcs hb h2, bfs hb h2 h3, bcs hb h4, bfs hb h4 h5, bcs hb h6, bfs hb h6 h7, bcs hb h8, bfs hb h8 h9, bcs hb h10, bfs hb h10 h11, bcs hb h12, bfs hb h12 h13, bcs hb h14, bfs hb h14 h15, bcs hb h16, bfs hb h16 h17, bcs hb h18, bfs hb h18 h19, bcs hb h20, bfs hb h20 h21, bcs hb h22, bfs hb h22 h23⟩) ⟨by first | with_reducible assumption | go_simp, by first | with_reducible assumption | go_simp, by first | with_reducible assumption | go_simp, by first | with_reducible assumption | go_simp, by first | with_reducible assumption | go_simp, by first | with_reducible assumption | go_simp, by first | with_reducible assumption | go_simp, by first | with_reducible assumption | go_simp, by first | with_reducible assumption | go_simp, by first | with_reducible assumption | go_simp, by first | with_reducible assumption | go_simp, by first | with_reducible assumption | go_simp, by first | with_reducible assumption | go_simp, by first | with_reducible assumption | go_simp, by first | with_reducible assumption | go_simp, by first | with_reducible assumption | go_simp, by first | with_reducible assumption | go_simp, by first | with_reducible assumption | go_simp, by first | with_reducible assumption | go_simp, by first | with_reducible assumption | go_simp, by first | with_reducible assumption | go_simp, by first | with_reducible assumption | go_simp, by first | with_reducible assumption | go_simp, by first | with_reducible assumption | go_simp, by repeat (first | with_reducible exact Below.refl _ _ | fail | with_reducible apply below_drewN | with_reducible apply Below.drew | (with_reducible refine Below.alloc ?_ (by first | (simp; done) | (simp; omega) | omega) _) | (with_reducible refine Below.setCell ?_ (by first | (simp; done) | (simp; omega) | omega) _)), by first | with_reducible assumption | (simp; done) | (simp; omega)⟩ ?_ ?_
  · rintro W ⟨k1_b5_0, g1_b5_0, k1_b5_1, g1_b5_1, k1_b5_2, g1_b5_2, k1_b6_0, g1_b6_0, k1_b6_1, g1_b6_1, k1_b6_2, g1_b6_2, k1_b8_0, g1_b8_0, k1_b8_1, g1_b8_1, k1_b8_2, g1_b8_2, k1_b8_3, g1_b8_3, k1_b8_4, g1_b8_4, k1_b8_5, g1_b8_5, B1, z1⟩; exact ⟨k1_b5_0, g1_b5_0, k1_b5_1, g1_b5_1, k1_b5_2, g1_b5_2, k1_b6_0, g1_b6_0, k1_b6_1, g1_b6_1, k1_b6_2, g1_b6_2, k1_b8_0, g1_b8_0, k1_b8_1, g1_b8_1, k1_b8_2, g1_b8_2, k1_b8_3, g1_b8_3, k1_b8_4, g1_b8_4, k1_b8_5, g1_b8_5⟩
  rintro w1 ⟨k1_b5_0, g1_b5_0, k1_b5_1, g1_b5_1, k1_b5_2, g1_b5_2, k1_b6_0, g1_b6_0, k1_b6_1, g1_b6_1, k1_b6_2, g1_b6_2, k1_b8_0, g1_b8_0, k1_b8_1, g1_b8_1, k1_b8_2, g1_b8_2, k1_b8_3, g1_b8_3, k1_b8_4, g1_b8_4, k1_b8_5, g1_b8_5, B1, z1⟩ gg
  simp only [List.take_succ_cons, List.take_zero, List.drop_succ_cons, List.drop_zero, List.cons_append, List.nil_append, List.append_nil]
  refine obe_val (by rfl) ?_ ?_
  · clear k1_b5_0 g1_b5_0 k1_b5_1 g1_b5_1 k1_b5_2 g1_b5_2 k1_b6_0 g1_b6_0 k1_b6_1 g1_b6_1 k1_b6_2 g1_b6_2 k1_b8_0 g1_b8_0 k1_b8_1 g1_b8_1 k1_b8_2 g1_b8_2 k1_b8_3 g1_b8_3 k1_b8_4 g1_b8_4 k1_b8_5 g1_b8_5 B1 z1; intro f hf; have u5 : f 5 = (.pointer (some ⟨w.heap.size, 0, none⟩)) := (by rw [← hf]; rfl); clear hf; rintro w' ⟨h0, h1, h2, h3, h4, h5, h6, h7, h8, h9, h10, h11, h12, h13, h14, h15, h16, h17, h18, h19, h20, h21, h22, h23⟩; go_simp; try exact IntWalk.i64_in _ (by omega)
  refine obe_val (by rfl) ?_ ?_
  · clear k1_b5_0 g1_b5_0 k1_b5_1 g1_b5_1 k1_b5_2 g1_b5_2 k1_b6_0 g1_b6_0 k1_b6_1 g1_b6_1 k1_b6_2 g1_b6_2 k1_b8_0 g1_b8_0 k1_b8_1 g1_b8_1 k1_b8_2 g1_b8_2 k1_b8_3 g1_b8_3 k1_b8_4 g1_b8_4 k1_b8_5 g1_b8_5 B1 z1; intro f hf; have u5 : f 5 = (.pointer (some ⟨w.heap.size, 0, none⟩)) := (by rw [← hf]; rfl); clear hf; rintro w' ⟨h0, h1, h2, h3, h4, h5, h6, h7, h8, h9, h10, h11, h12, h13, h14, h15, h16, h17, h18, h19, h20, h21, h22, h23⟩; go_simp; try exact IntWalk.i64_in _ (by omega)
  refine obe_call (by rfl) ?_ ?_ ?_
  · clear k1_b5_0 g1_b5_0 k1_b5_1 g1_b5_1 k1_b5_2 g1_b5_2 k1_b6_0 g1_b6_0 k1_b6_1 g1_b6_1 k1_b6_2 g1_b6_2 k1_b8_0 g1_b8_0 k1_b8_1 g1_b8_1 k1_b8_2 g1_b8_2 k1_b8_3 g1_b8_3 k1_b8_4 g1_b8_4 k1_b8_5 g1_b8_5 B1 z1; intro f hf; have u31 : f 31 = (.agg #[.int .i64 x0, .int .i64 x1, .int .i64 x2]) := (by rw [← hf]; rfl); clear hf; intro w' _; simp only [execOp, resolve, invoke, rhoF_tmp, rhoF_func, rhoF_const, u31, List.map_toArray, List.map_cons, List.map_nil]; go_simp
  · clear k1_b5_0 g1_b5_0 k1_b5_1 g1_b5_1 k1_b5_2 g1_b5_2 k1_b6_0 g1_b6_0 k1_b6_1 g1_b6_1 k1_b6_2 g1_b6_2 k1_b8_0 g1_b8_0 k1_b8_1 g1_b8_1 k1_b8_2 g1_b8_2 k1_b8_3 g1_b8_3 k1_b8_4 g1_b8_4 k1_b8_5 g1_b8_5 B1 z1; rintro w' ⟨h0, h1, h2, h3, h4, h5, h6, h7, h8, h9, h10, h11, h12, h13, h14, h15, h16, h17, h18, h19, h20, h21, h22, h23⟩; exact cs _
  refine obe_val (by rfl) ?_ ?_
  · clear k1_b5_0 g1_b5_0 k1_b5_1 g1_b5_1 k1_b5_2 g1_b5_2 k1_b6_0 g1_b6_0 k1_b6_1 g1_b6_1 k1_b6_2 g1_b6_2 k1_b8_0 g1_b8_0 k1_b8_1 g1_b8_1 k1_b8_2 g1_b8_2 k1_b8_3 g1_b8_3 k1_b8_4 g1_b8_4 k1_b8_5 g1_b8_5 B1 z1; intro f hf; have u6 : f 6 = (.pointer (some ⟨w.heap.size + 1, 0, none⟩)) := (by rw [← hf]; rfl); clear hf; rintro w' ⟨h0, h1, h2, h3, h4, h5, h6, h7, h8, h9, h10, h11, h12, h13, h14, h15, h16, h17, h18, h19, h20, h21, h22, h23⟩; go_simp; try exact IntWalk.i64_in _ (by omega)
  refine obe_call (by rfl) ?_ ?_ ?_
  · clear k1_b5_0 g1_b5_0 k1_b5_1 g1_b5_1 k1_b5_2 g1_b5_2 k1_b6_0 g1_b6_0 k1_b6_1 g1_b6_1 k1_b6_2 g1_b6_2 k1_b8_0 g1_b8_0 k1_b8_1 g1_b8_1 k1_b8_2 g1_b8_2 k1_b8_3 g1_b8_3 k1_b8_4 g1_b8_4 k1_b8_5 g1_b8_5 B1 z1; intro f hf; have u33 : f 33 = (.agg #[.int .i64 y0, .int .i64 y1, .int .i64 y2]) := (by rw [← hf]; rfl); clear hf; intro w' _; simp only [execOp, resolve, invoke, rhoF_tmp, rhoF_func, rhoF_const, u33, List.map_toArray, List.map_cons, List.map_nil]; go_simp
  · clear k1_b5_0 g1_b5_0 k1_b5_1 g1_b5_1 k1_b5_2 g1_b5_2 k1_b6_0 g1_b6_0 k1_b6_1 g1_b6_1 k1_b6_2 g1_b6_2 k1_b8_0 g1_b8_0 k1_b8_1 g1_b8_1 k1_b8_2 g1_b8_2 k1_b8_3 g1_b8_3 k1_b8_4 g1_b8_4 k1_b8_5 g1_b8_5 B1 z1; rintro w' ⟨h0, h1, h2, h3, h4, h5, h6, h7, h8, h9, h10, h11, h12, h13, h14, h15, h16, h17, h18, h19, h20, h21, h22, h23⟩; exact cl _
  refine obe_val (by rfl) ?_ ?_
  · clear k1_b5_0 g1_b5_0 k1_b5_1 g1_b5_1 k1_b5_2 g1_b5_2 k1_b6_0 g1_b6_0 k1_b6_1 g1_b6_1 k1_b6_2 g1_b6_2 k1_b8_0 g1_b8_0 k1_b8_1 g1_b8_1 k1_b8_2 g1_b8_2 k1_b8_3 g1_b8_3 k1_b8_4 g1_b8_4 k1_b8_5 g1_b8_5 B1 z1; intro f hf; have u3 : f 3 = (.int .i64 a) := (by rw [← hf]; rfl); clear hf; rintro w' ⟨h0, h1, h2, h3, h4, h5, h6, h7, h8, h9, h10, h11, h12, h13, h14, h15, h16, h17, h18, h19, h20, h21, h22, h23⟩; go_simp; try exact IntWalk.i64_in _ (by omega)
  refine obe_val (by rfl) ?_ ?_
  · clear k1_b5_0 g1_b5_0 k1_b5_1 g1_b5_1 k1_b5_2 g1_b5_2 k1_b6_0 g1_b6_0 k1_b6_1 g1_b6_1 k1_b6_2 g1_b6_2 k1_b8_0 g1_b8_0 k1_b8_1 g1_b8_1 k1_b8_2 g1_b8_2 k1_b8_3 g1_b8_3 k1_b8_4 g1_b8_4 k1_b8_5 g1_b8_5 B1 z1; intro f hf; have u30 : f 30 = (.agg #[.int .i64 x0, .int .i64 x1, .int .i64 x2]) := (by rw [← hf]; rfl); have u32 : f 32 = (.int .i64 t) := (by rw [← hf]; rfl); have u34 : f 34 = (.int .i64 l) := (by rw [← hf]; rfl); have u35 : f 35 = (.int .i64 a) := (by rw [← hf]; rfl); clear hf; rintro w' ⟨h0, h1, h2, h3, h4, h5, h6, h7, h8, h9, h10, h11, h12, h13, h14, h15, h16, h17, h18, h19, h20, h21, h22, h23⟩; go_simp; try exact IntWalk.i64_in _ (by omega)
  refine obe_nil ?_
  rintro w2 ⟨h0, h1, h2, h3, h4, h5, h6, h7, h8, h9, h10, h11, h12, h13, h14, h15, h16, h17, h18, h19, h20, h21, h22, h23⟩ hb2 hF
  (try simp only [List.nil_append, List.append_nil, List.cons_append] at hF)
  simp only [puts, putD, Act.put, List.setIfInBounds_toArray, List.set_cons_zero, List.set_cons_succ]
  clear hF
  have k2_b5_0 := bcs hb2 k1_b5_0
  have g2_b5_0 := bfs hb2 k1_b5_0 g1_b5_0
  have k2_b5_1 := bcs hb2 k1_b5_1
  have g2_b5_1 := bfs hb2 k1_b5_1 g1_b5_1
  have k2_b5_2 := bcs hb2 k1_b5_2
  have g2_b5_2 := bfs hb2 k1_b5_2 g1_b5_2
  have k2_b6_0 := bcs hb2 k1_b6_0
  have g2_b6_0 := bfs hb2 k1_b6_0 g1_b6_0
  have k2_b6_1 := bcs hb2 k1_b6_1
  have g2_b6_1 := bfs hb2 k1_b6_1 g1_b6_1
  have k2_b6_2 := bcs hb2 k1_b6_2
  have g2_b6_2 := bfs hb2 k1_b6_2 g1_b6_2
  have k2_b8_0 := bcs hb2 k1_b8_0
  have g2_b8_0 := bfs hb2 k1_b8_0 g1_b8_0
  have k2_b8_1 := bcs hb2 k1_b8_1
  have g2_b8_1 := bfs hb2 k1_b8_1 g1_b8_1
  have k2_b8_2 := bcs hb2 k1_b8_2
  have g2_b8_2 := bfs hb2 k1_b8_2 g1_b8_2
  have k2_b8_3 := bcs hb2 k1_b8_3
  have g2_b8_3 := bfs hb2 k1_b8_3 g1_b8_3
  have k2_b8_4 := bcs hb2 k1_b8_4
  have g2_b8_4 := bfs hb2 k1_b8_4 g1_b8_4
  have k2_b8_5 := bcs hb2 k1_b8_5
  have g2_b8_5 := bfs hb2 k1_b8_5 g1_b8_5
  clear h0 h1 h2 h3 h4 h5 h6 h7 h8 h9 h10 h11 h12 h13 h14 h15 h16 h17 h18 h19 h20 h21 h22 h23
  have B2 := bel_step B1 hb2
  have z2 := Nat.le_trans z1 hb2.size
  clear hb2
  (try clear B1)
  (try clear z1)
  (try clear k1_b5_0)
  (try clear g1_b5_0)
  (try clear k1_b5_1)
  (try clear g1_b5_1)
  (try clear k1_b5_2)
  (try clear g1_b5_2)
  (try clear k1_b6_0)
  (try clear g1_b6_0)
  (try clear k1_b6_1)
  (try clear g1_b6_1)
  (try clear k1_b6_2)
  (try clear g1_b6_2)
  (try clear k1_b8_0)
  (try clear g1_b8_0)
  (try clear k1_b8_1)
  (try clear g1_b8_1)
  (try clear k1_b8_2)
  (try clear g1_b8_2)
  (try clear k1_b8_3)
  (try clear g1_b8_3)
  (try clear k1_b8_4)
  (try clear g1_b8_4)
  (try clear k1_b8_5)
  (try clear g1_b8_5)
  (try clear q1_b5)
  (try clear x1_b5)
  (try clear y1_b5)
  (try clear q1_b6)
  (try clear x1_b6)
  (try clear y1_b6)
  (try clear q1_b8)
  (try clear x1_b8)
  (try clear y1_b8)
  have q2_b5 : w.heap.size < w2.heap.size := qlt k2_b5_0
  have x2_b5 : ¬ w.heap.size = w2.heap.size := qne k2_b5_0
  have y2_b5 : ¬ w2.heap.size = w.heap.size := fun h => qne k2_b5_0 h.symm
  have q2_b6 : w.heap.size + 1 < w2.heap.size := qlt k2_b6_0
  have x2_b6 : ¬ w.heap.size + 1 = w2.heap.size := qne k2_b6_0
  have y2_b6 : ¬ w2.heap.size = w.heap.size + 1 := fun h => qne k2_b6_0 h.symm
  have q2_b8 : w.heap.size + 1 + 1 < w2.heap.size := qlt k2_b8_0
  have x2_b8 : ¬ w.heap.size + 1 + 1 = w2.heap.size := qne k2_b8_0
  have y2_b8 : ¬ w2.heap.size = w.heap.size + 1 + 1 := fun h => qne k2_b8_0 h.symm
  go_wp2
  refine bodyPost_ret (v := .agg #[.int .i64 x0, .int .i64 x1, .int .i64 x2, .int .i64 t, .int .i64 l, .int .i64 a]) (by simp [results, Try.results47, go_sem, *]) rfl ⟨rfl, ?_⟩
  repeat (first | with_reducible exact Below.refl _ _ | with_reducible exact B2 | with_reducible apply below_drewN | with_reducible apply Below.drew | (with_reducible refine Below.alloc ?_ (by first | (simp; done) | (simp; omega) | omega) _) | (with_reducible refine Below.setCell ?_ (by first | (simp; done) | (simp; omega) | omega) _))

set_option maxHeartbeats 4000000 in
theorem hue13_any (x0 x1 x2 y0 y1 y2 a : Int) (a0 : 0 ≤ a) (a1 : a ≤ 65025) (x00 : 0 ≤ x0) (x01 : x0 ≤ a) (x10 : 0 ≤ x1) (x11 : x1 ≤ a) (x20 : 0 ≤ x2) (x21 : x2 ≤ a) (y00 : 0 ≤ y0) (y01 : y0 ≤ a) (y10 : 0 ≤ y1) (y11 : y1 ≤ a) (y20 : 0 ≤ y2) (y21 : y2 ≤ a) (w : World) :
    Calls Try.prog 47 #[.int .i64 13, .agg #[.int .i64 x0, .int .i64 x1, .int .i64 x2], .agg #[.int .i64 y0, .int .i64 y1, .int .i64 y2], .int .i64 a] w fun e w' => e = .returned (.agg #[.int .i64 y0, .int .i64 y1, .int .i64 y2, .int .i64 (max (max y0 y1) y2 - min (min y0 y1) y2), .int .i64 (30 * x0 + 59 * x1 + 11 * x2), .int .i64 a]) ∧ Below w.heap.size w w' := by
  have cs := fun w => sat_any y0 y1 y2 a a0 a1 y00 y01 y10 y11 y20 y21 w
  have cl := fun w => lum_any x0 x1 x2 a a0 a1 x00 x01 x10 x11 x20 x21 w
  obtain ⟨t, ht⟩ : ∃ x, max (max y0 y1) y2 - min (min y0 y1) y2 = x := ⟨_, rfl⟩
  obtain ⟨l, hl⟩ : ∃ x, 30 * x0 + 59 * x1 + 11 * x2 = x := ⟨_, rfl⟩
  rw [ht] at cs ⊢
  rw [hl] at cl ⊢
  clear ht hl
  go_enter Try.func47, Try.ntmps47
  go_wp2
  refine wp_region_env (fun w' => w'.cell? ⟨w.heap.size, 0, none⟩ = some (.int .i64 x0) ∧ w'.frozen? ⟨w.heap.size, 0, none⟩ = false ∧ w'.cell? ⟨w.heap.size, 1, none⟩ = some (.int .i64 x1) ∧ w'.frozen? ⟨w.heap.size, 1, none⟩ = false ∧ w'.cell? ⟨w.heap.size, 2, none⟩ = some (.int .i64 x2) ∧ w'.frozen? ⟨w.heap.size, 2, none⟩ = false ∧ w'.cell? ⟨w.heap.size + 1, 0, none⟩ = some (.int .i64 y0) ∧ w'.frozen? ⟨w.heap.size + 1, 0, none⟩ = false ∧ w'.cell? ⟨w.heap.size + 1, 1, none⟩ = some (.int .i64 y1) ∧ w'.frozen? ⟨w.heap.size + 1, 1, none⟩ = false ∧ w'.cell? ⟨w.heap.size + 1, 2, none⟩ = some (.int .i64 y2) ∧ w'.frozen? ⟨w.heap.size + 1, 2, none⟩ = false ∧ w'.cell? ⟨w.heap.size + 1 + 1, 0, none⟩ = some (.int .i64 0) ∧ w'.frozen? ⟨w.heap.size + 1 + 1, 0, none⟩ = false ∧ w'.cell? ⟨w.heap.size + 1 + 1, 1, none⟩ = some (.int .i64 0) ∧ w'.frozen? ⟨w.heap.size + 1 + 1, 1, none⟩ = false ∧ w'.cell? ⟨w.heap.size + 1 + 1, 2, none⟩ = some (.int .i64 0) ∧ w'.frozen? ⟨w.heap.size + 1 + 1, 2, none⟩ = false ∧ w'.cell? ⟨w.heap.size + 1 + 1, 3, none⟩ = some (.int .i64 0) ∧ w'.frozen? ⟨w.heap.size + 1 + 1, 3, none⟩ = false ∧ w'.cell? ⟨w.heap.size + 1 + 1, 4, none⟩ = some (.int .i64 0) ∧ w'.frozen? ⟨w.heap.size + 1 + 1, 4, none⟩ = false ∧ w'.cell? ⟨w.heap.size + 1 + 1, 5, none⟩ = some (.int .i64 0) ∧ w'.frozen? ⟨w.heap.size + 1 + 1, 5, none⟩ = false) (fun W => W.cell? ⟨w.heap.size, 0, none⟩ = some (.int .i64 x0) ∧ W.frozen? ⟨w.heap.size, 0, none⟩ = false ∧ W.cell? ⟨w.heap.size, 1, none⟩ = some (.int .i64 x1) ∧ W.frozen? ⟨w.heap.size, 1, none⟩ = false ∧ W.cell? ⟨w.heap.size, 2, none⟩ = some (.int .i64 x2) ∧ W.frozen? ⟨w.heap.size, 2, none⟩ = false ∧ W.cell? ⟨w.heap.size + 1, 0, none⟩ = some (.int .i64 y0) ∧ W.frozen? ⟨w.heap.size + 1, 0, none⟩ = false ∧ W.cell? ⟨w.heap.size + 1, 1, none⟩ = some (.int .i64 y1) ∧ W.frozen? ⟨w.heap.size + 1, 1, none⟩ = false ∧ W.cell? ⟨w.heap.size + 1, 2, none⟩ = some (.int .i64 y2) ∧ W.frozen? ⟨w.heap.size + 1, 2, none⟩ = false ∧ W.cell? ⟨w.heap.size + 1 + 1, 0, none⟩ = some (.int .i64 0) ∧ W.frozen? ⟨w.heap.size + 1 + 1, 0, none⟩ = false ∧ W.cell? ⟨w.heap.size + 1 + 1, 1, none⟩ = some (.int .i64 0) ∧ W.frozen? ⟨w.heap.size + 1 + 1, 1, none⟩ = false ∧ W.cell? ⟨w.heap.size + 1 + 1, 2, none⟩ = some (.int .i64 0) ∧ W.frozen? ⟨w.heap.size + 1 + 1, 2, none⟩ = false ∧ W.cell? ⟨w.heap.size + 1 + 1, 3, none⟩ = some (.int .i64 0) ∧ W.frozen? ⟨w.heap.size + 1 + 1, 3, none⟩ = false ∧ W.cell? ⟨w.heap.size + 1 + 1, 4, none⟩ = some (.int .i64 0) ∧ W.frozen? ⟨w.heap.size + 1 + 1, 4, none⟩ = false ∧ W.cell? ⟨w.heap.size + 1 + 1, 5, none⟩ = some (.int .i64 0) ∧ W.frozen? ⟨w.heap.size + 1 + 1, 5, none⟩ = false ∧ Below w.heap.size w W ∧ w.heap.size + 1 + 1 + 1 ≤ W.heap.size) 7 44 [.val (.agg #[.int .i64 y0, .int .i64 y1, .int .i64 y2]), .val (.agg #[.int .i64 y0, .int .i64 y1, .int .i64 y2]), .call 57 #[.agg #[.int .i64 y0, .int .i64 y1, .int .i64 y2]] (.int .i64 t), .val (.agg #[.int .i64 x0, .int .i64 x1, .int .i64 x2]), .call 58 #[.agg #[.int .i64 x0, .int .i64 x1, .int .i64 x2]] (.int .i64 l), .val (.int .i64 a), .val (.agg #[.int .i64 y0, .int .i64 y1, .int .i64 y2, .int .i64 t, .int .i64 l, .int .i64 a])] (by kernel_rfl) (by kernel_rfl) rfl (by kernel_rfl) (by rintro w1 w2 ⟨h0, h1, h2, h3, h4, h5, h6, h7, h8, h9, h10, h11, h12, h13, h14, h15, h16, h17, h18, h19, h20, h21, h22, h23⟩ hb; exact ⟨bcs hb h0, bfs hb h0 h1, bcs hb h2, bfs hb h2 h3, bcs hb h4, bfs hb h4 h5, bcs hb h6, bfs hb h6 h7, bcs hb h8, bfs hb h8 h9, bcs hb h10, bfs hb h10 h11, bcs hb h12, bfs hb h12 h13, bcs hb h14, bfs hb h14 h15, bcs hb h16, bfs hb h16 h17, bcs hb h18, bfs hb h18 h19, bcs hb h20, bfs hb h20 h21, bcs hb h22, bfs hb h22 h23⟩) ⟨by first | with_reducible assumption | go_simp, by first | with_reducible assumption | go_simp, by first | with_reducible assumption | go_simp, by first | with_reducible assumption | go_simp, by first | with_reducible assumption | go_simp, by first | with_reducible assumption | go_simp, by first | with_reducible assumption | go_simp, by first | with_reducible assumption | go_simp, by first | with_reducible assumption | go_simp, by first | with_reducible assumption | go_simp, by first | with_reducible assumption | go_simp, by first | with_reducible assumption | go_simp, by first | with_reducible assumption | go_simp, by first | with_reducible assumption | go_simp, by first | with_reducible assumption | go_simp, by first | with_reducible assumption | go_simp, by first | with_reducible assumption | go_simp, by first | with_reducible assumption | go_simp, by first | with_reducible assumption | go_simp, by first | with_reducible assumption | go_simp, by first | with_reducible assumption | go_simp, by first | with_reducible assumption | go_simp, by first | with_reducible assumption | go_simp, by first | with_reducible assumption | go_simp, by repeat (first | with_reducible exact Below.refl _ _ | fail | with_reducible apply below_drewN | with_reducible apply Below.drew | (with_reducible refine Below.alloc ?_ (by first | (simp; done) | (simp; omega) | omega) _) | (with_reducible refine Below.setCell ?_ (by first | (simp; done) | (simp; omega) | omega) _)), by first | with_reducible assumption | (simp; done) | (simp; omega)⟩ ?_ ?_
  · rintro W ⟨k1_b5_0, g1_b5_0, k1_b5_1, g1_b5_1, k1_b5_2, g1_b5_2, k1_b6_0, g1_b6_0, k1_b6_1, g1_b6_1, k1_b6_2, g1_b6_2, k1_b8_0, g1_b8_0, k1_b8_1, g1_b8_1, k1_b8_2, g1_b8_2, k1_b8_3, g1_b8_3, k1_b8_4, g1_b8_4, k1_b8_5, g1_b8_5, B1, z1⟩; exact ⟨k1_b5_0, g1_b5_0, k1_b5_1, g1_b5_1, k1_b5_2, g1_b5_2, k1_b6_0, g1_b6_0, k1_b6_1, g1_b6_1, k1_b6_2, g1_b6_2, k1_b8_0, g1_b8_0, k1_b8_1, g1_b8_1, k1_b8_2, g1_b8_2, k1_b8_3, g1_b8_3, k1_b8_4, g1_b8_4, k1_b8_5, g1_b8_5⟩
  rintro w1 ⟨k1_b5_0, g1_b5_0, k1_b5_1, g1_b5_1, k1_b5_2, g1_b5_2, k1_b6_0, g1_b6_0, k1_b6_1, g1_b6_1, k1_b6_2, g1_b6_2, k1_b8_0, g1_b8_0, k1_b8_1, g1_b8_1, k1_b8_2, g1_b8_2, k1_b8_3, g1_b8_3, k1_b8_4, g1_b8_4, k1_b8_5, g1_b8_5, B1, z1⟩ gg
  simp only [List.take_succ_cons, List.take_zero, List.drop_succ_cons, List.drop_zero, List.cons_append, List.nil_append, List.append_nil]
  refine obe_val (by rfl) ?_ ?_
  · clear k1_b5_0 g1_b5_0 k1_b5_1 g1_b5_1 k1_b5_2 g1_b5_2 k1_b6_0 g1_b6_0 k1_b6_1 g1_b6_1 k1_b6_2 g1_b6_2 k1_b8_0 g1_b8_0 k1_b8_1 g1_b8_1 k1_b8_2 g1_b8_2 k1_b8_3 g1_b8_3 k1_b8_4 g1_b8_4 k1_b8_5 g1_b8_5 B1 z1; intro f hf; have u6 : f 6 = (.pointer (some ⟨w.heap.size + 1, 0, none⟩)) := (by rw [← hf]; rfl); clear hf; rintro w' ⟨h0, h1, h2, h3, h4, h5, h6, h7, h8, h9, h10, h11, h12, h13, h14, h15, h16, h17, h18, h19, h20, h21, h22, h23⟩; go_simp; try exact IntWalk.i64_in _ (by omega)
  refine obe_val (by rfl) ?_ ?_
  · clear k1_b5_0 g1_b5_0 k1_b5_1 g1_b5_1 k1_b5_2 g1_b5_2 k1_b6_0 g1_b6_0 k1_b6_1 g1_b6_1 k1_b6_2 g1_b6_2 k1_b8_0 g1_b8_0 k1_b8_1 g1_b8_1 k1_b8_2 g1_b8_2 k1_b8_3 g1_b8_3 k1_b8_4 g1_b8_4 k1_b8_5 g1_b8_5 B1 z1; intro f hf; have u6 : f 6 = (.pointer (some ⟨w.heap.size + 1, 0, none⟩)) := (by rw [← hf]; rfl); clear hf; rintro w' ⟨h0, h1, h2, h3, h4, h5, h6, h7, h8, h9, h10, h11, h12, h13, h14, h15, h16, h17, h18, h19, h20, h21, h22, h23⟩; go_simp; try exact IntWalk.i64_in _ (by omega)
  refine obe_call (by rfl) ?_ ?_ ?_
  · clear k1_b5_0 g1_b5_0 k1_b5_1 g1_b5_1 k1_b5_2 g1_b5_2 k1_b6_0 g1_b6_0 k1_b6_1 g1_b6_1 k1_b6_2 g1_b6_2 k1_b8_0 g1_b8_0 k1_b8_1 g1_b8_1 k1_b8_2 g1_b8_2 k1_b8_3 g1_b8_3 k1_b8_4 g1_b8_4 k1_b8_5 g1_b8_5 B1 z1; intro f hf; have u38 : f 38 = (.agg #[.int .i64 y0, .int .i64 y1, .int .i64 y2]) := (by rw [← hf]; rfl); clear hf; intro w' _; simp only [execOp, resolve, invoke, rhoF_tmp, rhoF_func, rhoF_const, u38, List.map_toArray, List.map_cons, List.map_nil]; go_simp
  · clear k1_b5_0 g1_b5_0 k1_b5_1 g1_b5_1 k1_b5_2 g1_b5_2 k1_b6_0 g1_b6_0 k1_b6_1 g1_b6_1 k1_b6_2 g1_b6_2 k1_b8_0 g1_b8_0 k1_b8_1 g1_b8_1 k1_b8_2 g1_b8_2 k1_b8_3 g1_b8_3 k1_b8_4 g1_b8_4 k1_b8_5 g1_b8_5 B1 z1; rintro w' ⟨h0, h1, h2, h3, h4, h5, h6, h7, h8, h9, h10, h11, h12, h13, h14, h15, h16, h17, h18, h19, h20, h21, h22, h23⟩; exact cs _
  refine obe_val (by rfl) ?_ ?_
  · clear k1_b5_0 g1_b5_0 k1_b5_1 g1_b5_1 k1_b5_2 g1_b5_2 k1_b6_0 g1_b6_0 k1_b6_1 g1_b6_1 k1_b6_2 g1_b6_2 k1_b8_0 g1_b8_0 k1_b8_1 g1_b8_1 k1_b8_2 g1_b8_2 k1_b8_3 g1_b8_3 k1_b8_4 g1_b8_4 k1_b8_5 g1_b8_5 B1 z1; intro f hf; have u5 : f 5 = (.pointer (some ⟨w.heap.size, 0, none⟩)) := (by rw [← hf]; rfl); clear hf; rintro w' ⟨h0, h1, h2, h3, h4, h5, h6, h7, h8, h9, h10, h11, h12, h13, h14, h15, h16, h17, h18, h19, h20, h21, h22, h23⟩; go_simp; try exact IntWalk.i64_in _ (by omega)
  refine obe_call (by rfl) ?_ ?_ ?_
  · clear k1_b5_0 g1_b5_0 k1_b5_1 g1_b5_1 k1_b5_2 g1_b5_2 k1_b6_0 g1_b6_0 k1_b6_1 g1_b6_1 k1_b6_2 g1_b6_2 k1_b8_0 g1_b8_0 k1_b8_1 g1_b8_1 k1_b8_2 g1_b8_2 k1_b8_3 g1_b8_3 k1_b8_4 g1_b8_4 k1_b8_5 g1_b8_5 B1 z1; intro f hf; have u40 : f 40 = (.agg #[.int .i64 x0, .int .i64 x1, .int .i64 x2]) := (by rw [← hf]; rfl); clear hf; intro w' _; simp only [execOp, resolve, invoke, rhoF_tmp, rhoF_func, rhoF_const, u40, List.map_toArray, List.map_cons, List.map_nil]; go_simp
  · clear k1_b5_0 g1_b5_0 k1_b5_1 g1_b5_1 k1_b5_2 g1_b5_2 k1_b6_0 g1_b6_0 k1_b6_1 g1_b6_1 k1_b6_2 g1_b6_2 k1_b8_0 g1_b8_0 k1_b8_1 g1_b8_1 k1_b8_2 g1_b8_2 k1_b8_3 g1_b8_3 k1_b8_4 g1_b8_4 k1_b8_5 g1_b8_5 B1 z1; rintro w' ⟨h0, h1, h2, h3, h4, h5, h6, h7, h8, h9, h10, h11, h12, h13, h14, h15, h16, h17, h18, h19, h20, h21, h22, h23⟩; exact cl _
  refine obe_val (by rfl) ?_ ?_
  · clear k1_b5_0 g1_b5_0 k1_b5_1 g1_b5_1 k1_b5_2 g1_b5_2 k1_b6_0 g1_b6_0 k1_b6_1 g1_b6_1 k1_b6_2 g1_b6_2 k1_b8_0 g1_b8_0 k1_b8_1 g1_b8_1 k1_b8_2 g1_b8_2 k1_b8_3 g1_b8_3 k1_b8_4 g1_b8_4 k1_b8_5 g1_b8_5 B1 z1; intro f hf; have u3 : f 3 = (.int .i64 a) := (by rw [← hf]; rfl); clear hf; rintro w' ⟨h0, h1, h2, h3, h4, h5, h6, h7, h8, h9, h10, h11, h12, h13, h14, h15, h16, h17, h18, h19, h20, h21, h22, h23⟩; go_simp; try exact IntWalk.i64_in _ (by omega)
  refine obe_val (by rfl) ?_ ?_
  · clear k1_b5_0 g1_b5_0 k1_b5_1 g1_b5_1 k1_b5_2 g1_b5_2 k1_b6_0 g1_b6_0 k1_b6_1 g1_b6_1 k1_b6_2 g1_b6_2 k1_b8_0 g1_b8_0 k1_b8_1 g1_b8_1 k1_b8_2 g1_b8_2 k1_b8_3 g1_b8_3 k1_b8_4 g1_b8_4 k1_b8_5 g1_b8_5 B1 z1; intro f hf; have u37 : f 37 = (.agg #[.int .i64 y0, .int .i64 y1, .int .i64 y2]) := (by rw [← hf]; rfl); have u39 : f 39 = (.int .i64 t) := (by rw [← hf]; rfl); have u41 : f 41 = (.int .i64 l) := (by rw [← hf]; rfl); have u42 : f 42 = (.int .i64 a) := (by rw [← hf]; rfl); clear hf; rintro w' ⟨h0, h1, h2, h3, h4, h5, h6, h7, h8, h9, h10, h11, h12, h13, h14, h15, h16, h17, h18, h19, h20, h21, h22, h23⟩; go_simp; try exact IntWalk.i64_in _ (by omega)
  refine obe_nil ?_
  rintro w2 ⟨h0, h1, h2, h3, h4, h5, h6, h7, h8, h9, h10, h11, h12, h13, h14, h15, h16, h17, h18, h19, h20, h21, h22, h23⟩ hb2 hF
  (try simp only [List.nil_append, List.append_nil, List.cons_append] at hF)
  simp only [puts, putD, Act.put, List.setIfInBounds_toArray, List.set_cons_zero, List.set_cons_succ]
  clear hF
  have k2_b5_0 := bcs hb2 k1_b5_0
  have g2_b5_0 := bfs hb2 k1_b5_0 g1_b5_0
  have k2_b5_1 := bcs hb2 k1_b5_1
  have g2_b5_1 := bfs hb2 k1_b5_1 g1_b5_1
  have k2_b5_2 := bcs hb2 k1_b5_2
  have g2_b5_2 := bfs hb2 k1_b5_2 g1_b5_2
  have k2_b6_0 := bcs hb2 k1_b6_0
  have g2_b6_0 := bfs hb2 k1_b6_0 g1_b6_0
  have k2_b6_1 := bcs hb2 k1_b6_1
  have g2_b6_1 := bfs hb2 k1_b6_1 g1_b6_1
  have k2_b6_2 := bcs hb2 k1_b6_2
  have g2_b6_2 := bfs hb2 k1_b6_2 g1_b6_2
  have k2_b8_0 := bcs hb2 k1_b8_0
  have g2_b8_0 := bfs hb2 k1_b8_0 g1_b8_0
  have k2_b8_1 := bcs hb2 k1_b8_1
  have g2_b8_1 := bfs hb2 k1_b8_1 g1_b8_1
  have k2_b8_2 := bcs hb2 k1_b8_2
  have g2_b8_2 := bfs hb2 k1_b8_2 g1_b8_2
  have k2_b8_3 := bcs hb2 k1_b8_3
  have g2_b8_3 := bfs hb2 k1_b8_3 g1_b8_3
  have k2_b8_4 := bcs hb2 k1_b8_4
  have g2_b8_4 := bfs hb2 k1_b8_4 g1_b8_4
  have k2_b8_5 := bcs hb2 k1_b8_5
  have g2_b8_5 := bfs hb2 k1_b8_5 g1_b8_5
  clear h0 h1 h2 h3 h4 h5 h6 h7 h8 h9 h10 h11 h12 h13 h14 h15 h16 h17 h18 h19 h20 h21 h22 h23
  have B2 := bel_step B1 hb2
  have z2 := Nat.le_trans z1 hb2.size
  clear hb2
  (try clear B1)
  (try clear z1)
  (try clear k1_b5_0)
  (try clear g1_b5_0)
  (try clear k1_b5_1)
  (try clear g1_b5_1)
  (try clear k1_b5_2)
  (try clear g1_b5_2)
  (try clear k1_b6_0)
  (try clear g1_b6_0)
  (try clear k1_b6_1)
  (try clear g1_b6_1)
  (try clear k1_b6_2)
  (try clear g1_b6_2)
  (try clear k1_b8_0)
  (try clear g1_b8_0)
  (try clear k1_b8_1)
  (try clear g1_b8_1)
  (try clear k1_b8_2)
  (try clear g1_b8_2)
  (try clear k1_b8_3)
  (try clear g1_b8_3)
  (try clear k1_b8_4)
  (try clear g1_b8_4)
  (try clear k1_b8_5)
  (try clear g1_b8_5)
  (try clear q1_b5)
  (try clear x1_b5)
  (try clear y1_b5)
  (try clear q1_b6)
  (try clear x1_b6)
  (try clear y1_b6)
  (try clear q1_b8)
  (try clear x1_b8)
  (try clear y1_b8)
  have q2_b5 : w.heap.size < w2.heap.size := qlt k2_b5_0
  have x2_b5 : ¬ w.heap.size = w2.heap.size := qne k2_b5_0
  have y2_b5 : ¬ w2.heap.size = w.heap.size := fun h => qne k2_b5_0 h.symm
  have q2_b6 : w.heap.size + 1 < w2.heap.size := qlt k2_b6_0
  have x2_b6 : ¬ w.heap.size + 1 = w2.heap.size := qne k2_b6_0
  have y2_b6 : ¬ w2.heap.size = w.heap.size + 1 := fun h => qne k2_b6_0 h.symm
  have q2_b8 : w.heap.size + 1 + 1 < w2.heap.size := qlt k2_b8_0
  have x2_b8 : ¬ w.heap.size + 1 + 1 = w2.heap.size := qne k2_b8_0
  have y2_b8 : ¬ w2.heap.size = w.heap.size + 1 + 1 := fun h => qne k2_b8_0 h.symm
  go_wp2
  refine bodyPost_ret (v := .agg #[.int .i64 y0, .int .i64 y1, .int .i64 y2, .int .i64 t, .int .i64 l, .int .i64 a]) (by simp [results, Try.results47, go_sem, *]) rfl ⟨rfl, ?_⟩
  repeat (first | with_reducible exact Below.refl _ _ | with_reducible exact B2 | with_reducible apply below_drewN | with_reducible apply Below.drew | (with_reducible refine Below.alloc ?_ (by first | (simp; done) | (simp; omega) | omega) _) | (with_reducible refine Below.setCell ?_ (by first | (simp; done) | (simp; omega) | omega) _))
end Go.Proofs.Ytgaabdidddglhaa
