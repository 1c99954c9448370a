import Derived.Test.YtfaiogomhjmhhaaC7
import Derived.WalkKit
import Derived.WalkSpells
import Derived.WalkLawsBesides
import Derived.Lib.Hide
import Derived.Below
import Derived.Deep.QuietTactic
import Derived.BigQuiet
import Derived.Deep.RegionHeld3
import Derived.Deep.DrawnRows
import Derived.Deep.DeepFit
import Derived.IntWalk
namespace Go.Proofs.Ytfaiogomhjmhhaa
open Go.RowKit
set_option linter.unusedVariables false
set_option linter.unusedSimpArgs false
attribute [local go_sem ↓] Go.wp_at_zero Go.wp_at_succ
attribute [local go_sem] rhoF_tmp rhoF_const rhoF_global rhoF_func

set_option maxRecDepth 50000 in
set_option maxHeartbeats 8000000 in
theorem colorScale_w (r g b a s t u d k : Int) (r0 : 0 ≤ r) (r1 : r ≤ 255) (g0 : 0 ≤ g) (g1 : g ≤ 255) (b0 : 0 ≤ b) (b1 : b ≤ 255) (a0 : 0 ≤ a) (a1 : a ≤ 255) (s0 : 0 ≤ s) (s1 : s ≤ 255) (t0 : 0 ≤ t) (t1 : t ≤ 255) (u0 : 0 ≤ u) (u1 : u ≤ 255) (d0 : 0 ≤ d) (d1 : d ≤ 255) (k0 : 0 ≤ k) (k1 : k ≤ 255) (w : World) :
    Calls Try.prog 4 #[.agg #[.int .u8 r, .int .u8 g, .int .u8 b, .int .u8 a], .agg #[.int .u8 s, .int .u8 t, .int .u8 u, .int .u8 d], .int .u8 k] w fun e w' => e = .returned (.bool true) ∧ Below w.heap.size w w' := by
  have cs := fun w => scale_any r g b a k r0 r1 g0 g1 b0 b1 a0 a1 k0 k1 w
  have crs := fun w => rscale_any r g b a k r0 r1 g0 g1 b0 b1 a0 a1 k0 k1 w
  have cs1 := fun w => scale_any r g b a 255 r0 r1 g0 g1 b0 b1 a0 a1 (by omega) (by omega) w
  have cs0 := fun w => scale_any r g b a 0 r0 r1 g0 g1 b0 b1 a0 a1 (by omega) (by omega) w
  have cl := fun w => lerp_any r g b a s t u d k r0 r1 g0 g1 b0 b1 a0 a1 s0 s1 t0 t1 u0 u1 d0 d1 k0 k1 w
  have crl := fun w => rlerp_any r g b a s t u d k r0 r1 g0 g1 b0 b1 a0 a1 s0 s1 t0 t1 u0 u1 d0 d1 k0 k1 w
  have cl1 := fun w => lerp_any r g b a s t u d 255 r0 r1 g0 g1 b0 b1 a0 a1 s0 s1 t0 t1 u0 u1 d0 d1 (by omega) (by omega) w
  have cl0 := fun w => lerp_any r g b a s t u d 0 r0 r1 g0 g1 b0 b1 a0 a1 s0 s1 t0 t1 u0 u1 d0 d1 (by omega) (by omega) w
  rw [mn8_full r r0 r1, mn8_full g g0 g1, mn8_full b b0 b1, mn8_full a a0 a1] at cs1
  rw [mn8_zero r, mn8_zero g, mn8_zero b, mn8_zero a] at cs0
  rw [lrp_full r s s0 s1, lrp_full g t t0 t1, lrp_full b u u0 u1, lrp_full a d d0 d1] at cl1
  rw [lrp_zero r s r0 r1, lrp_zero g t g0 g1, lrp_zero b u b0 b1, lrp_zero a d a0 a1] at cl0
  obtain ⟨l0, hl0⟩ : ∃ z, mn8 r k = z := ⟨_, rfl⟩
  obtain ⟨l1, hl1⟩ : ∃ z, mn8 g k = z := ⟨_, rfl⟩
  obtain ⟨l2, hl2⟩ : ∃ z, mn8 b k = z := ⟨_, rfl⟩
  obtain ⟨l3, hl3⟩ : ∃ z, mn8 a k = z := ⟨_, rfl⟩
  obtain ⟨q0, hq0⟩ : ∃ z, lrp r s k = z := ⟨_, rfl⟩
  obtain ⟨q1, hq1⟩ : ∃ z, lrp g t k = z := ⟨_, rfl⟩
  obtain ⟨q2, hq2⟩ : ∃ z, lrp b u k = z := ⟨_, rfl⟩
  obtain ⟨q3, hq3⟩ : ∃ z, lrp a d k = z := ⟨_, rfl⟩
  rw [hl0, hl1, hl2, hl3] at cs crs
  rw [hq0, hq1, hq2, hq3] at cl crl
  clear hl0 hl1 hl2 hl3 hq0 hq1 hq2 hq3
  go_enter Try.func4, Try.ntmps4
  go_wp2
  refine wp_region_env (fun w' => w'.cell? ⟨w.heap.size, 0, none⟩ = some (.int .u8 r) ∧ w'.frozen? ⟨w.heap.size, 0, none⟩ = false ∧ w'.cell? ⟨w.heap.size, 1, none⟩ = some (.int .u8 g) ∧ w'.frozen? ⟨w.heap.size, 1, none⟩ = false ∧ w'.cell? ⟨w.heap.size, 2, none⟩ = some (.int .u8 b) ∧ w'.frozen? ⟨w.heap.size, 2, none⟩ = false ∧ w'.cell? ⟨w.heap.size, 3, none⟩ = some (.int .u8 a) ∧ w'.frozen? ⟨w.heap.size, 3, none⟩ = false ∧ w'.cell? ⟨w.heap.size + 1, 0, none⟩ = some (.int .u8 s) ∧ w'.frozen? ⟨w.heap.size + 1, 0, none⟩ = false ∧ w'.cell? ⟨w.heap.size + 1, 1, none⟩ = some (.int .u8 t) ∧ w'.frozen? ⟨w.heap.size + 1, 1, none⟩ = false ∧ w'.cell? ⟨w.heap.size + 1, 2, none⟩ = some (.int .u8 u) ∧ w'.frozen? ⟨w.heap.size + 1, 2, none⟩ = false ∧ w'.cell? ⟨w.heap.size + 1, 3, none⟩ = some (.int .u8 d) ∧ w'.frozen? ⟨w.heap.size + 1, 3, none⟩ = false) (fun W => W.cell? ⟨w.heap.size, 0, none⟩ = some (.int .u8 r) ∧ W.frozen? ⟨w.heap.size, 0, none⟩ = false ∧ W.cell? ⟨w.heap.size, 1, none⟩ = some (.int .u8 g) ∧ W.frozen? ⟨w.heap.size, 1, none⟩ = false ∧ W.cell? ⟨w.heap.size, 2, none⟩ = some (.int .u8 b) ∧ W.frozen? ⟨w.heap.size, 2, none⟩ = false ∧ W.cell? ⟨w.heap.size, 3, none⟩ = some (.int .u8 a) ∧ W.frozen? ⟨w.heap.size, 3, none⟩ = false ∧ W.cell? ⟨w.heap.size + 1, 0, none⟩ = some (.int .u8 s) ∧ W.frozen? ⟨w.heap.size + 1, 0, none⟩ = false ∧ W.cell? ⟨w.heap.size + 1, 1, none⟩ = some (.int .u8 t) ∧ W.frozen? ⟨w.heap.size + 1, 1, none⟩ = false ∧ W.cell? ⟨w.heap.size + 1, 2, none⟩ = some (.int .u8 u) ∧ W.frozen? ⟨w.heap.size + 1, 2, none⟩ = false ∧ W.cell? ⟨w.heap.size + 1, 3, none⟩ = some (.int .u8 d) ∧ W.frozen? ⟨w.heap.size + 1, 3, none⟩ = false ∧ Below w.heap.size w W ∧ w.heap.size + 1 + 1 ≤ W.heap.size) 48 54 [.val (.agg #[.int .u8 r, .int .u8 g, .int .u8 b, .int .u8 a]), .val (.int .u8 k), .call 15 #[.agg #[.int .u8 r, .int .u8 g, .int .u8 b, .int .u8 a], .int .u8 k] (.agg #[.int .u8 l0, .int .u8 l1, .int .u8 l2, .int .u8 l3]), .val (.agg #[.int .u8 r, .int .u8 g, .int .u8 b, .int .u8 a]), .val (.int .u8 k), .call 16 #[.agg #[.int .u8 r, .int .u8 g, .int .u8 b, .int .u8 a], .int .u8 k] (.agg #[.int .u8 l0, .int .u8 l1, .int .u8 l2, .int .u8 l3]), .val (.bool true), .val (.bool true), .val (.agg #[.int .u8 r, .int .u8 g, .int .u8 b, .int .u8 a]), .val (.agg #[.int .u8 s, .int .u8 t, .int .u8 u, .int .u8 d]), .val (.int .u8 k), .call 17 #[.agg #[.int .u8 r, .int .u8 g, .int .u8 b, .int .u8 a], .agg #[.int .u8 s, .int .u8 t, .int .u8 u, .int .u8 d], .int .u8 k] (.agg #[.int .u8 q0, .int .u8 q1, .int .u8 q2, .int .u8 q3]), .val (.agg #[.int .u8 r, .int .u8 g, .int .u8 b, .int .u8 a]), .val (.agg #[.int .u8 s, .int .u8 t, .int .u8 u, .int .u8 d]), .val (.int .u8 k), .call 18 #[.agg #[.int .u8 r, .int .u8 g, .int .u8 b, .int .u8 a], .agg #[.int .u8 s, .int .u8 t, .int .u8 u, .int .u8 d], .int .u8 k] (.agg #[.int .u8 q0, .int .u8 q1, .int .u8 q2, .int .u8 q3]), .val (.bool true), .val (.bool true), .val (.bool true), .val (.agg #[.int .u8 r, .int .u8 g, .int .u8 b, .int .u8 a]), .val (.agg #[.int .u8 s, .int .u8 t, .int .u8 u, .int .u8 d]), .call 17 #[.agg #[.int .u8 r, .int .u8 g, .int .u8 b, .int .u8 a], .agg #[.int .u8 s, .int .u8 t, .int .u8 u, .int .u8 d], .int .u8 0] (.agg #[.int .u8 r, .int .u8 g, .int .u8 b, .int .u8 a]), .val (.agg #[.int .u8 r, .int .u8 g, .int .u8 b, .int .u8 a]), .val (.bool true), .val (.bool true), .val (.bool true), .val (.agg #[.int .u8 r, .int .u8 g, .int .u8 b, .int .u8 a]), .val (.agg #[.int .u8 s, .int .u8 t, .int .u8 u, .int .u8 d]), .call 17 #[.agg #[.int .u8 r, .int .u8 g, .int .u8 b, .int .u8 a], .agg #[.int .u8 s, .int .u8 t, .int .u8 u, .int .u8 d], .int .u8 255] (.agg #[.int .u8 s, .int .u8 t, .int .u8 u, .int .u8 d]), .val (.agg #[.int .u8 s, .int .u8 t, .int .u8 u, .int .u8 d]), .val (.bool true), .val (.bool true), .val (.bool true), .val (.agg #[.int .u8 r, .int .u8 g, .int .u8 b, .int .u8 a]), .call 15 #[.agg #[.int .u8 r, .int .u8 g, .int .u8 b, .int .u8 a], .int .u8 255] (.agg #[.int .u8 r, .int .u8 g, .int .u8 b, .int .u8 a]), .val (.agg #[.int .u8 r, .int .u8 g, .int .u8 b, .int .u8 a]), .val (.bool true), .val (.bool true), .val (.bool true), .val (.agg #[.int .u8 r, .int .u8 g, .int .u8 b, .int .u8 a]), .call 15 #[.agg #[.int .u8 r, .int .u8 g, .int .u8 b, .int .u8 a], .int .u8 0] (.agg #[.int .u8 0, .int .u8 0, .int .u8 0, .int .u8 0]), .val (.agg #[.int .u8 0, .int .u8 0, .int .u8 0, .int .u8 0]), .val (.bool true), .val (.bool true), .val (.bool true), .call 14 #[] (.bool true), .val (.bool true), .val (.bool true)] (by kernel_rfl) (by kernel_rfl) rfl (by kernel_rfl) (by rintro w1 w2 ⟨h0, h1, h2, h3, h4, h5, h6, h7, h8, h9, h10, h11, h12, h13, h14, h15⟩ hb; exact ⟨bcs hb h0, bfs hb h0 h1, bcs hb h2, bfs hb h2 h3, bcs hb h4, bfs hb h4 h5, bcs hb h6, bfs hb h6 h7, bcs hb h8, bfs hb h8 h9, bcs hb h10, bfs hb h10 h11, bcs hb h12, bfs hb h12 h13, bcs hb h14, bfs hb h14 h15⟩) ⟨by first | with_reducible assumption | go_simp, by first | with_reducible assumption | go_simp, by first | with_reducible assumption | go_simp, by first | with_reducible assumption | go_simp, by first | with_reducible assumption | go_simp, by first | with_reducible assumption | go_simp, by first | with_reducible assumption | go_simp, by first | with_reducible assumption | go_simp, by first | with_reducible assumption | go_simp, by first | with_reducible assumption | go_simp, by first | with_reducible assumption | go_simp, by first | with_reducible assumption | go_simp, by first | with_reducible assumption | go_simp, by first | with_reducible assumption | go_simp, by first | with_reducible assumption | go_simp, by first | with_reducible assumption | go_simp, by repeat (first | with_reducible exact Below.refl _ _ | fail | with_reducible apply below_drewN | with_reducible apply Below.drew | (with_reducible refine Below.alloc ?_ (by first | (simp; done) | (simp; omega) | omega) _) | (with_reducible refine Below.setCell ?_ (by first | (simp; done) | (simp; omega) | omega) _)), by first | with_reducible assumption | (simp; done) | (simp; omega)⟩ ?_ ?_
  · rintro W ⟨k1_b3_0, g1_b3_0, k1_b3_1, g1_b3_1, k1_b3_2, g1_b3_2, k1_b3_3, g1_b3_3, k1_b4_0, g1_b4_0, k1_b4_1, g1_b4_1, k1_b4_2, g1_b4_2, k1_b4_3, g1_b4_3, B1, z1⟩; exact ⟨k1_b3_0, g1_b3_0, k1_b3_1, g1_b3_1, k1_b3_2, g1_b3_2, k1_b3_3, g1_b3_3, k1_b4_0, g1_b4_0, k1_b4_1, g1_b4_1, k1_b4_2, g1_b4_2, k1_b4_3, g1_b4_3⟩
  rintro w1 ⟨k1_b3_0, g1_b3_0, k1_b3_1, g1_b3_1, k1_b3_2, g1_b3_2, k1_b3_3, g1_b3_3, k1_b4_0, g1_b4_0, k1_b4_1, g1_b4_1, k1_b4_2, g1_b4_2, k1_b4_3, g1_b4_3, B1, z1⟩ gg
  simp only [List.take_succ_cons, List.take_zero, List.drop_succ_cons, List.drop_zero, List.cons_append, List.nil_append, List.append_nil]
  refine obe_val (by rfl) ?_ ?_
  · clear k1_b3_0 g1_b3_0 k1_b3_1 g1_b3_1 k1_b3_2 g1_b3_2 k1_b3_3 g1_b3_3 k1_b4_0 g1_b4_0 k1_b4_1 g1_b4_1 k1_b4_2 g1_b4_2 k1_b4_3 g1_b4_3 B1 z1; intro f hf; have u3 : f 3 = (.pointer (some ⟨w.heap.size, 0, none⟩)) := (by rw [← hf]; rfl); clear hf; rintro w' ⟨h0, h1, h2, h3, h4, h5, h6, h7, h8, h9, h10, h11, h12, h13, h14, h15⟩; go_simp; try exact IntWalk.i64_in _ (by omega)
  refine obe_val (by rfl) ?_ ?_
  · clear k1_b3_0 g1_b3_0 k1_b3_1 g1_b3_1 k1_b3_2 g1_b3_2 k1_b3_3 g1_b3_3 k1_b4_0 g1_b4_0 k1_b4_1 g1_b4_1 k1_b4_2 g1_b4_2 k1_b4_3 g1_b4_3 B1 z1; intro f hf; have u2 : f 2 = (.int .u8 k) := (by rw [← hf]; rfl); clear hf; rintro w' ⟨h0, h1, h2, h3, h4, h5, h6, h7, h8, h9, h10, h11, h12, h13, h14, h15⟩; go_simp; try exact IntWalk.i64_in _ (by omega)
  refine obe_call (by rfl) ?_ ?_ ?_
  · clear k1_b3_0 g1_b3_0 k1_b3_1 g1_b3_1 k1_b3_2 g1_b3_2 k1_b3_3 g1_b3_3 k1_b4_0 g1_b4_0 k1_b4_1 g1_b4_1 k1_b4_2 g1_b4_2 k1_b4_3 g1_b4_3 B1 z1; intro f hf; have u7 : f 7 = (.agg #[.int .u8 r, .int .u8 g, .int .u8 b, .int .u8 a]) := (by rw [← hf]; rfl); have u8 : f 8 = (.int .u8 k) := (by rw [← hf]; rfl); clear hf; intro w' _; simp only [execOp, resolve, invoke, rhoF_tmp, rhoF_func, rhoF_const, u7, u8, List.map_toArray, List.map_cons, List.map_nil]; go_simp
  · clear k1_b3_0 g1_b3_0 k1_b3_1 g1_b3_1 k1_b3_2 g1_b3_2 k1_b3_3 g1_b3_3 k1_b4_0 g1_b4_0 k1_b4_1 g1_b4_1 k1_b4_2 g1_b4_2 k1_b4_3 g1_b4_3 B1 z1; rintro w' ⟨h0, h1, h2, h3, h4, h5, h6, h7, h8, h9, h10, h11, h12, h13, h14, h15⟩; exact cs _
  refine obe_val (by rfl) ?_ ?_
  · clear k1_b3_0 g1_b3_0 k1_b3_1 g1_b3_1 k1_b3_2 g1_b3_2 k1_b3_3 g1_b3_3 k1_b4_0 g1_b4_0 k1_b4_1 g1_b4_1 k1_b4_2 g1_b4_2 k1_b4_3 g1_b4_3 B1 z1; intro f hf; have u3 : f 3 = (.pointer (some ⟨w.heap.size, 0, none⟩)) := (by rw [← hf]; rfl); clear hf; rintro w' ⟨h0, h1, h2, h3, h4, h5, h6, h7, h8, h9, h10, h11, h12, h13, h14, h15⟩; go_simp; try exact IntWalk.i64_in _ (by omega)
  refine obe_val (by rfl) ?_ ?_
  · clear k1_b3_0 g1_b3_0 k1_b3_1 g1_b3_1 k1_b3_2 g1_b3_2 k1_b3_3 g1_b3_3 k1_b4_0 g1_b4_0 k1_b4_1 g1_b4_1 k1_b4_2 g1_b4_2 k1_b4_3 g1_b4_3 B1 z1; intro f hf; have u2 : f 2 = (.int .u8 k) := (by rw [← hf]; rfl); clear hf; rintro w' ⟨h0, h1, h2, h3, h4, h5, h6, h7, h8, h9, h10, h11, h12, h13, h14, h15⟩; go_simp; try exact IntWalk.i64_in _ (by omega)
  refine obe_call (by rfl) ?_ ?_ ?_
  · clear k1_b3_0 g1_b3_0 k1_b3_1 g1_b3_1 k1_b3_2 g1_b3_2 k1_b3_3 g1_b3_3 k1_b4_0 g1_b4_0 k1_b4_1 g1_b4_1 k1_b4_2 g1_b4_2 k1_b4_3 g1_b4_3 B1 z1; intro f hf; have u10 : f 10 = (.agg #[.int .u8 r, .int .u8 g, .int .u8 b, .int .u8 a]) := (by rw [← hf]; rfl); have u11 : f 11 = (.int .u8 k) := (by rw [← hf]; rfl); clear hf; intro w' _; simp only [execOp, resolve, invoke, rhoF_tmp, rhoF_func, rhoF_const, u10, u11, List.map_toArray, List.map_cons, List.map_nil]; go_simp
  · clear k1_b3_0 g1_b3_0 k1_b3_1 g1_b3_1 k1_b3_2 g1_b3_2 k1_b3_3 g1_b3_3 k1_b4_0 g1_b4_0 k1_b4_1 g1_b4_1 k1_b4_2 g1_b4_2 k1_b4_3 g1_b4_3 B1 z1; rintro w' ⟨h0, h1, h2, h3, h4, h5, h6, h7, h8, h9, h10, h11, h12, h13, h14, h15⟩; exact crs _
  refine obe_val (by rfl) ?_ ?_
  · clear k1_b3_0 g1_b3_0 k1_b3_1 g1_b3_1 k1_b3_2 g1_b3_2 k1_b3_3 g1_b3_3 k1_b4_0 g1_b4_0 k1_b4_1 g1_b4_1 k1_b4_2 g1_b4_2 k1_b4_3 g1_b4_3 B1 z1; intro f hf; have u9 : f 9 = (.agg #[.int .u8 l0, .int .u8 l1, .int .u8 l2, .int .u8 l3]) := (by rw [← hf]; rfl); have u12 : f 12 = (.agg #[.int .u8 l0, .int .u8 l1, .int .u8 l2, .int .u8 l3]) := (by rw [← hf]; rfl); clear hf; rintro w' ⟨h0, h1, h2, h3, h4, h5, h6, h7, h8, h9, h10, h11, h12, h13, h14, h15⟩; go_simp; try exact IntWalk.i64_in _ (by omega)
  refine obe_val (by rfl) ?_ ?_
  · clear k1_b3_0 g1_b3_0 k1_b3_1 g1_b3_1 k1_b3_2 g1_b3_2 k1_b3_3 g1_b3_3 k1_b4_0 g1_b4_0 k1_b4_1 g1_b4_1 k1_b4_2 g1_b4_2 k1_b4_3 g1_b4_3 B1 z1; intro f hf; have u13 : f 13 = (.bool true) := (by rw [← hf]; rfl); clear hf; rintro w' ⟨h0, h1, h2, h3, h4, h5, h6, h7, h8, h9, h10, h11, h12, h13, h14, h15⟩; go_simp; try exact IntWalk.i64_in _ (by omega)
  refine obe_val (by rfl) ?_ ?_
  · clear k1_b3_0 g1_b3_0 k1_b3_1 g1_b3_1 k1_b3_2 g1_b3_2 k1_b3_3 g1_b3_3 k1_b4_0 g1_b4_0 k1_b4_1 g1_b4_1 k1_b4_2 g1_b4_2 k1_b4_3 g1_b4_3 B1 z1; intro f hf; have u3 : f 3 = (.pointer (some ⟨w.heap.size, 0, none⟩)) := (by rw [← hf]; rfl); clear hf; rintro w' ⟨h0, h1, h2, h3, h4, h5, h6, h7, h8, h9, h10, h11, h12, h13, h14, h15⟩; go_simp; try exact IntWalk.i64_in _ (by omega)
  refine obe_val (by rfl) ?_ ?_
  · clear k1_b3_0 g1_b3_0 k1_b3_1 g1_b3_1 k1_b3_2 g1_b3_2 k1_b3_3 g1_b3_3 k1_b4_0 g1_b4_0 k1_b4_1 g1_b4_1 k1_b4_2 g1_b4_2 k1_b4_3 g1_b4_3 B1 z1; intro f hf; have u4 : f 4 = (.pointer (some ⟨w.heap.size + 1, 0, none⟩)) := (by rw [← hf]; rfl); clear hf; rintro w' ⟨h0, h1, h2, h3, h4, h5, h6, h7, h8, h9, h10, h11, h12, h13, h14, h15⟩; go_simp; try exact IntWalk.i64_in _ (by omega)
  refine obe_val (by rfl) ?_ ?_
  · clear k1_b3_0 g1_b3_0 k1_b3_1 g1_b3_1 k1_b3_2 g1_b3_2 k1_b3_3 g1_b3_3 k1_b4_0 g1_b4_0 k1_b4_1 g1_b4_1 k1_b4_2 g1_b4_2 k1_b4_3 g1_b4_3 B1 z1; intro f hf; have u2 : f 2 = (.int .u8 k) := (by rw [← hf]; rfl); clear hf; rintro w' ⟨h0, h1, h2, h3, h4, h5, h6, h7, h8, h9, h10, h11, h12, h13, h14, h15⟩; go_simp; try exact IntWalk.i64_in _ (by omega)
  refine obe_call (by rfl) ?_ ?_ ?_
  · clear k1_b3_0 g1_b3_0 k1_b3_1 g1_b3_1 k1_b3_2 g1_b3_2 k1_b3_3 g1_b3_3 k1_b4_0 g1_b4_0 k1_b4_1 g1_b4_1 k1_b4_2 g1_b4_2 k1_b4_3 g1_b4_3 B1 z1; intro f hf; have u15 : f 15 = (.agg #[.int .u8 r, .int .u8 g, .int .u8 b, .int .u8 a]) := (by rw [← hf]; rfl); have u16 : f 16 = (.agg #[.int .u8 s, .int .u8 t, .int .u8 u, .int .u8 d]) := (by rw [← hf]; rfl); have u17 : f 17 = (.int .u8 k) := (by rw [← hf]; rfl); clear hf; intro w' _; simp only [execOp, resolve, invoke, rhoF_tmp, rhoF_func, rhoF_const, u15, u16, u17, List.map_toArray, List.map_cons, List.map_nil]; go_simp
  · clear k1_b3_0 g1_b3_0 k1_b3_1 g1_b3_1 k1_b3_2 g1_b3_2 k1_b3_3 g1_b3_3 k1_b4_0 g1_b4_0 k1_b4_1 g1_b4_1 k1_b4_2 g1_b4_2 k1_b4_3 g1_b4_3 B1 z1; rintro w' ⟨h0, h1, h2, h3, h4, h5, h6, h7, h8, h9, h10, h11, h12, h13, h14, h15⟩; exact cl _
  refine obe_val (by rfl) ?_ ?_
  · clear k1_b3_0 g1_b3_0 k1_b3_1 g1_b3_1 k1_b3_2 g1_b3_2 k1_b3_3 g1_b3_3 k1_b4_0 g1_b4_0 k1_b4_1 g1_b4_1 k1_b4_2 g1_b4_2 k1_b4_3 g1_b4_3 B1 z1; intro f hf; have u3 : f 3 = (.pointer (some ⟨w.heap.size, 0, none⟩)) := (by rw [← hf]; rfl); clear hf; rintro w' ⟨h0, h1, h2, h3, h4, h5, h6, h7, h8, h9, h10, h11, h12, h13, h14, h15⟩; go_simp; try exact IntWalk.i64_in _ (by omega)
  refine obe_val (by rfl) ?_ ?_
  · clear k1_b3_0 g1_b3_0 k1_b3_1 g1_b3_1 k1_b3_2 g1_b3_2 k1_b3_3 g1_b3_3 k1_b4_0 g1_b4_0 k1_b4_1 g1_b4_1 k1_b4_2 g1_b4_2 k1_b4_3 g1_b4_3 B1 z1; intro f hf; have u4 : f 4 = (.pointer (some ⟨w.heap.size + 1, 0, none⟩)) := (by rw [← hf]; rfl); clear hf; rintro w' ⟨h0, h1, h2, h3, h4, h5, h6, h7, h8, h9, h10, h11, h12, h13, h14, h15⟩; go_simp; try exact IntWalk.i64_in _ (by omega)
  refine obe_val (by rfl) ?_ ?_
  · clear k1_b3_0 g1_b3_0 k1_b3_1 g1_b3_1 k1_b3_2 g1_b3_2 k1_b3_3 g1_b3_3 k1_b4_0 g1_b4_0 k1_b4_1 g1_b4_1 k1_b4_2 g1_b4_2 k1_b4_3 g1_b4_3 B1 z1; intro f hf; have u2 : f 2 = (.int .u8 k) := (by rw [← hf]; rfl); clear hf; rintro w' ⟨h0, h1, h2, h3, h4, h5, h6, h7, h8, h9, h10, h11, h12, h13, h14, h15⟩; go_simp; try exact IntWalk.i64_in _ (by omega)
  refine obe_call (by rfl) ?_ ?_ ?_
  · clear k1_b3_0 g1_b3_0 k1_b3_1 g1_b3_1 k1_b3_2 g1_b3_2 k1_b3_3 g1_b3_3 k1_b4_0 g1_b4_0 k1_b4_1 g1_b4_1 k1_b4_2 g1_b4_2 k1_b4_3 g1_b4_3 B1 z1; intro f hf; have u19 : f 19 = (.agg #[.int .u8 r, .int .u8 g, .int .u8 b, .int .u8 a]) := (by rw [← hf]; rfl); have u20 : f 20 = (.agg #[.int .u8 s, .int .u8 t, .int .u8 u, .int .u8 d]) := (by rw [← hf]; rfl); have u21 : f 21 = (.int .u8 k) := (by rw [← hf]; rfl); clear hf; intro w' _; simp only [execOp, resolve, invoke, rhoF_tmp, rhoF_func, rhoF_const, u19, u20, u21, List.map_toArray, List.map_cons, List.map_nil]; go_simp
  · clear k1_b3_0 g1_b3_0 k1_b3_1 g1_b3_1 k1_b3_2 g1_b3_2 k1_b3_3 g1_b3_3 k1_b4_0 g1_b4_0 k1_b4_1 g1_b4_1 k1_b4_2 g1_b4_2 k1_b4_3 g1_b4_3 B1 z1; rintro w' ⟨h0, h1, h2, h3, h4, h5, h6, h7, h8, h9, h10, h11, h12, h13, h14, h15⟩; exact crl _
  refine obe_val (by rfl) ?_ ?_
  · clear k1_b3_0 g1_b3_0 k1_b3_1 g1_b3_1 k1_b3_2 g1_b3_2 k1_b3_3 g1_b3_3 k1_b4_0 g1_b4_0 k1_b4_1 g1_b4_1 k1_b4_2 g1_b4_2 k1_b4_3 g1_b4_3 B1 z1; intro f hf; have u18 : f 18 = (.agg #[.int .u8 q0, .int .u8 q1, .int .u8 q2, .int .u8 q3]) := (by rw [← hf]; rfl); have u22 : f 22 = (.agg #[.int .u8 q0, .int .u8 q1, .int .u8 q2, .int .u8 q3]) := (by rw [← hf]; rfl); clear hf; rintro w' ⟨h0, h1, h2, h3, h4, h5, h6, h7, h8, h9, h10, h11, h12, h13, h14, h15⟩; go_simp; try exact IntWalk.i64_in _ (by omega)
  refine obe_val (by rfl) ?_ ?_
  · clear k1_b3_0 g1_b3_0 k1_b3_1 g1_b3_1 k1_b3_2 g1_b3_2 k1_b3_3 g1_b3_3 k1_b4_0 g1_b4_0 k1_b4_1 g1_b4_1 k1_b4_2 g1_b4_2 k1_b4_3 g1_b4_3 B1 z1; intro f hf; have u14 : f 14 = (.bool true) := (by rw [← hf]; rfl); have u23 : f 23 = (.bool true) := (by rw [← hf]; rfl); clear hf; rintro w' ⟨h0, h1, h2, h3, h4, h5, h6, h7, h8, h9, h10, h11, h12, h13, h14, h15⟩; go_simp; try exact IntWalk.i64_in _ (by omega)
  refine obe_val (by rfl) ?_ ?_
  · clear k1_b3_0 g1_b3_0 k1_b3_1 g1_b3_1 k1_b3_2 g1_b3_2 k1_b3_3 g1_b3_3 k1_b4_0 g1_b4_0 k1_b4_1 g1_b4_1 k1_b4_2 g1_b4_2 k1_b4_3 g1_b4_3 B1 z1; intro f hf; have u24 : f 24 = (.bool true) := (by rw [← hf]; rfl); clear hf; rintro w' ⟨h0, h1, h2, h3, h4, h5, h6, h7, h8, h9, h10, h11, h12, h13, h14, h15⟩; go_simp; try exact IntWalk.i64_in _ (by omega)
  refine obe_val (by rfl) ?_ ?_
  · clear k1_b3_0 g1_b3_0 k1_b3_1 g1_b3_1 k1_b3_2 g1_b3_2 k1_b3_3 g1_b3_3 k1_b4_0 g1_b4_0 k1_b4_1 g1_b4_1 k1_b4_2 g1_b4_2 k1_b4_3 g1_b4_3 B1 z1; intro f hf; have u3 : f 3 = (.pointer (some ⟨w.heap.size, 0, none⟩)) := (by rw [← hf]; rfl); clear hf; rintro w' ⟨h0, h1, h2, h3, h4, h5, h6, h7, h8, h9, h10, h11, h12, h13, h14, h15⟩; go_simp; try exact IntWalk.i64_in _ (by omega)
  refine obe_val (by rfl) ?_ ?_
  · clear k1_b3_0 g1_b3_0 k1_b3_1 g1_b3_1 k1_b3_2 g1_b3_2 k1_b3_3 g1_b3_3 k1_b4_0 g1_b4_0 k1_b4_1 g1_b4_1 k1_b4_2 g1_b4_2 k1_b4_3 g1_b4_3 B1 z1; intro f hf; have u4 : f 4 = (.pointer (some ⟨w.heap.size + 1, 0, none⟩)) := (by rw [← hf]; rfl); clear hf; rintro w' ⟨h0, h1, h2, h3, h4, h5, h6, h7, h8, h9, h10, h11, h12, h13, h14, h15⟩; go_simp; try exact IntWalk.i64_in _ (by omega)
  refine obe_call (by rfl) ?_ ?_ ?_
  · clear k1_b3_0 g1_b3_0 k1_b3_1 g1_b3_1 k1_b3_2 g1_b3_2 k1_b3_3 g1_b3_3 k1_b4_0 g1_b4_0 k1_b4_1 g1_b4_1 k1_b4_2 g1_b4_2 k1_b4_3 g1_b4_3 B1 z1; intro f hf; have u26 : f 26 = (.agg #[.int .u8 r, .int .u8 g, .int .u8 b, .int .u8 a]) := (by rw [← hf]; rfl); have u27 : f 27 = (.agg #[.int .u8 s, .int .u8 t, .int .u8 u, .int .u8 d]) := (by rw [← hf]; rfl); clear hf; intro w' _; simp only [execOp, resolve, invoke, rhoF_tmp, rhoF_func, rhoF_const, u26, u27, List.map_toArray, List.map_cons, List.map_nil]; go_simp
  · clear k1_b3_0 g1_b3_0 k1_b3_1 g1_b3_1 k1_b3_2 g1_b3_2 k1_b3_3 g1_b3_3 k1_b4_0 g1_b4_0 k1_b4_1 g1_b4_1 k1_b4_2 g1_b4_2 k1_b4_3 g1_b4_3 B1 z1; rintro w' ⟨h0, h1, h2, h3, h4, h5, h6, h7, h8, h9, h10, h11, h12, h13, h14, h15⟩; exact cl0 _
  refine obe_val (by rfl) ?_ ?_
  · clear k1_b3_0 g1_b3_0 k1_b3_1 g1_b3_1 k1_b3_2 g1_b3_2 k1_b3_3 g1_b3_3 k1_b4_0 g1_b4_0 k1_b4_1 g1_b4_1 k1_b4_2 g1_b4_2 k1_b4_3 g1_b4_3 B1 z1; intro f hf; have u3 : f 3 = (.pointer (some ⟨w.heap.size, 0, none⟩)) := (by rw [← hf]; rfl); clear hf; rintro w' ⟨h0, h1, h2, h3, h4, h5, h6, h7, h8, h9, h10, h11, h12, h13, h14, h15⟩; go_simp; try exact IntWalk.i64_in _ (by omega)
  refine obe_val (by rfl) ?_ ?_
  · clear k1_b3_0 g1_b3_0 k1_b3_1 g1_b3_1 k1_b3_2 g1_b3_2 k1_b3_3 g1_b3_3 k1_b4_0 g1_b4_0 k1_b4_1 g1_b4_1 k1_b4_2 g1_b4_2 k1_b4_3 g1_b4_3 B1 z1; intro f hf; have u28 : f 28 = (.agg #[.int .u8 r, .int .u8 g, .int .u8 b, .int .u8 a]) := (by rw [← hf]; rfl); have u29 : f 29 = (.agg #[.int .u8 r, .int .u8 g, .int .u8 b, .int .u8 a]) := (by rw [← hf]; rfl); clear hf; rintro w' ⟨h0, h1, h2, h3, h4, h5, h6, h7, h8, h9, h10, h11, h12, h13, h14, h15⟩; go_simp; try exact IntWalk.i64_in _ (by omega)
  refine obe_val (by rfl) ?_ ?_
  · clear k1_b3_0 g1_b3_0 k1_b3_1 g1_b3_1 k1_b3_2 g1_b3_2 k1_b3_3 g1_b3_3 k1_b4_0 g1_b4_0 k1_b4_1 g1_b4_1 k1_b4_2 g1_b4_2 k1_b4_3 g1_b4_3 B1 z1; intro f hf; have u25 : f 25 = (.bool true) := (by rw [← hf]; rfl); have u30 : f 30 = (.bool true) := (by rw [← hf]; rfl); clear hf; rintro w' ⟨h0, h1, h2, h3, h4, h5, h6, h7, h8, h9, h10, h11, h12, h13, h14, h15⟩; go_simp; try exact IntWalk.i64_in _ (by omega)
  refine obe_val (by rfl) ?_ ?_
  · clear k1_b3_0 g1_b3_0 k1_b3_1 g1_b3_1 k1_b3_2 g1_b3_2 k1_b3_3 g1_b3_3 k1_b4_0 g1_b4_0 k1_b4_1 g1_b4_1 k1_b4_2 g1_b4_2 k1_b4_3 g1_b4_3 B1 z1; intro f hf; have u31 : f 31 = (.bool true) := (by rw [← hf]; rfl); clear hf; rintro w' ⟨h0, h1, h2, h3, h4, h5, h6, h7, h8, h9, h10, h11, h12, h13, h14, h15⟩; go_simp; try exact IntWalk.i64_in _ (by omega)
  refine obe_val (by rfl) ?_ ?_
  · clear k1_b3_0 g1_b3_0 k1_b3_1 g1_b3_1 k1_b3_2 g1_b3_2 k1_b3_3 g1_b3_3 k1_b4_0 g1_b4_0 k1_b4_1 g1_b4_1 k1_b4_2 g1_b4_2 k1_b4_3 g1_b4_3 B1 z1; intro f hf; have u3 : f 3 = (.pointer (some ⟨w.heap.size, 0, none⟩)) := (by rw [← hf]; rfl); clear hf; rintro w' ⟨h0, h1, h2, h3, h4, h5, h6, h7, h8, h9, h10, h11, h12, h13, h14, h15⟩; go_simp; try exact IntWalk.i64_in _ (by omega)
  refine obe_val (by rfl) ?_ ?_
  · clear k1_b3_0 g1_b3_0 k1_b3_1 g1_b3_1 k1_b3_2 g1_b3_2 k1_b3_3 g1_b3_3 k1_b4_0 g1_b4_0 k1_b4_1 g1_b4_1 k1_b4_2 g1_b4_2 k1_b4_3 g1_b4_3 B1 z1; intro f hf; have u4 : f 4 = (.pointer (some ⟨w.heap.size + 1, 0, none⟩)) := (by rw [← hf]; rfl); clear hf; rintro w' ⟨h0, h1, h2, h3, h4, h5, h6, h7, h8, h9, h10, h11, h12, h13, h14, h15⟩; go_simp; try exact IntWalk.i64_in _ (by omega)
  refine obe_call (by rfl) ?_ ?_ ?_
  · clear k1_b3_0 g1_b3_0 k1_b3_1 g1_b3_1 k1_b3_2 g1_b3_2 k1_b3_3 g1_b3_3 k1_b4_0 g1_b4_0 k1_b4_1 g1_b4_1 k1_b4_2 g1_b4_2 k1_b4_3 g1_b4_3 B1 z1; intro f hf; have u33 : f 33 = (.agg #[.int .u8 r, .int .u8 g, .int .u8 b, .int .u8 a]) := (by rw [← hf]; rfl); have u34 : f 34 = (.agg #[.int .u8 s, .int .u8 t, .int .u8 u, .int .u8 d]) := (by rw [← hf]; rfl); clear hf; intro w' _; simp only [execOp, resolve, invoke, rhoF_tmp, rhoF_func, rhoF_const, u33, u34, List.map_toArray, List.map_cons, List.map_nil]; go_simp
  · clear k1_b3_0 g1_b3_0 k1_b3_1 g1_b3_1 k1_b3_2 g1_b3_2 k1_b3_3 g1_b3_3 k1_b4_0 g1_b4_0 k1_b4_1 g1_b4_1 k1_b4_2 g1_b4_2 k1_b4_3 g1_b4_3 B1 z1; rintro w' ⟨h0, h1, h2, h3, h4, h5, h6, h7, h8, h9, h10, h11, h12, h13, h14, h15⟩; exact cl1 _
  refine obe_val (by rfl) ?_ ?_
  · clear k1_b3_0 g1_b3_0 k1_b3_1 g1_b3_1 k1_b3_2 g1_b3_2 k1_b3_3 g1_b3_3 k1_b4_0 g1_b4_0 k1_b4_1 g1_b4_1 k1_b4_2 g1_b4_2 k1_b4_3 g1_b4_3 B1 z1; intro f hf; have u4 : f 4 = (.pointer (some ⟨w.heap.size + 1, 0, none⟩)) := (by rw [← hf]; rfl); clear hf; rintro w' ⟨h0, h1, h2, h3, h4, h5, h6, h7, h8, h9, h10, h11, h12, h13, h14, h15⟩; go_simp; try exact IntWalk.i64_in _ (by omega)
  refine obe_val (by rfl) ?_ ?_
  · clear k1_b3_0 g1_b3_0 k1_b3_1 g1_b3_1 k1_b3_2 g1_b3_2 k1_b3_3 g1_b3_3 k1_b4_0 g1_b4_0 k1_b4_1 g1_b4_1 k1_b4_2 g1_b4_2 k1_b4_3 g1_b4_3 B1 z1; intro f hf; have u35 : f 35 = (.agg #[.int .u8 s, .int .u8 t, .int .u8 u, .int .u8 d]) := (by rw [← hf]; rfl); have u36 : f 36 = (.agg #[.int .u8 s, .int .u8 t, .int .u8 u, .int .u8 d]) := (by rw [← hf]; rfl); clear hf; rintro w' ⟨h0, h1, h2, h3, h4, h5, h6, h7, h8, h9, h10, h11, h12, h13, h14, h15⟩; go_simp; try exact IntWalk.i64_in _ (by omega)
  refine obe_val (by rfl) ?_ ?_
  · clear k1_b3_0 g1_b3_0 k1_b3_1 g1_b3_1 k1_b3_2 g1_b3_2 k1_b3_3 g1_b3_3 k1_b4_0 g1_b4_0 k1_b4_1 g1_b4_1 k1_b4_2 g1_b4_2 k1_b4_3 g1_b4_3 B1 z1; intro f hf; have u32 : f 32 = (.bool true) := (by rw [← hf]; rfl); have u37 : f 37 = (.bool true) := (by rw [← hf]; rfl); clear hf; rintro w' ⟨h0, h1, h2, h3, h4, h5, h6, h7, h8, h9, h10, h11, h12, h13, h14, h15⟩; go_simp; try exact IntWalk.i64_in _ (by omega)
  refine obe_val (by rfl) ?_ ?_
  · clear k1_b3_0 g1_b3_0 k1_b3_1 g1_b3_1 k1_b3_2 g1_b3_2 k1_b3_3 g1_b3_3 k1_b4_0 g1_b4_0 k1_b4_1 g1_b4_1 k1_b4_2 g1_b4_2 k1_b4_3 g1_b4_3 B1 z1; intro f hf; have u38 : f 38 = (.bool true) := (by rw [← hf]; rfl); clear hf; rintro w' ⟨h0, h1, h2, h3, h4, h5, h6, h7, h8, h9, h10, h11, h12, h13, h14, h15⟩; go_simp; try exact IntWalk.i64_in _ (by omega)
  refine obe_val (by rfl) ?_ ?_
  · clear k1_b3_0 g1_b3_0 k1_b3_1 g1_b3_1 k1_b3_2 g1_b3_2 k1_b3_3 g1_b3_3 k1_b4_0 g1_b4_0 k1_b4_1 g1_b4_1 k1_b4_2 g1_b4_2 k1_b4_3 g1_b4_3 B1 z1; intro f hf; have u3 : f 3 = (.pointer (some ⟨w.heap.size, 0, none⟩)) := (by rw [← hf]; rfl); clear hf; rintro w' ⟨h0, h1, h2, h3, h4, h5, h6, h7, h8, h9, h10, h11, h12, h13, h14, h15⟩; go_simp; try exact IntWalk.i64_in _ (by omega)
  refine obe_call (by rfl) ?_ ?_ ?_
  · clear k1_b3_0 g1_b3_0 k1_b3_1 g1_b3_1 k1_b3_2 g1_b3_2 k1_b3_3 g1_b3_3 k1_b4_0 g1_b4_0 k1_b4_1 g1_b4_1 k1_b4_2 g1_b4_2 k1_b4_3 g1_b4_3 B1 z1; intro f hf; have u40 : f 40 = (.agg #[.int .u8 r, .int .u8 g, .int .u8 b, .int .u8 a]) := (by rw [← hf]; rfl); clear hf; intro w' _; simp only [execOp, resolve, invoke, rhoF_tmp, rhoF_func, rhoF_const, u40, List.map_toArray, List.map_cons, List.map_nil]; go_simp
  · clear k1_b3_0 g1_b3_0 k1_b3_1 g1_b3_1 k1_b3_2 g1_b3_2 k1_b3_3 g1_b3_3 k1_b4_0 g1_b4_0 k1_b4_1 g1_b4_1 k1_b4_2 g1_b4_2 k1_b4_3 g1_b4_3 B1 z1; rintro w' ⟨h0, h1, h2, h3, h4, h5, h6, h7, h8, h9, h10, h11, h12, h13, h14, h15⟩; exact cs1 _
  refine obe_val (by rfl) ?_ ?_
  · clear k1_b3_0 g1_b3_0 k1_b3_1 g1_b3_1 k1_b3_2 g1_b3_2 k1_b3_3 g1_b3_3 k1_b4_0 g1_b4_0 k1_b4_1 g1_b4_1 k1_b4_2 g1_b4_2 k1_b4_3 g1_b4_3 B1 z1; intro f hf; have u3 : f 3 = (.pointer (some ⟨w.heap.size, 0, none⟩)) := (by rw [← hf]; rfl); clear hf; rintro w' ⟨h0, h1, h2, h3, h4, h5, h6, h7, h8, h9, h10, h11, h12, h13, h14, h15⟩; go_simp; try exact IntWalk.i64_in _ (by omega)
  refine obe_val (by rfl) ?_ ?_
  · clear k1_b3_0 g1_b3_0 k1_b3_1 g1_b3_1 k1_b3_2 g1_b3_2 k1_b3_3 g1_b3_3 k1_b4_0 g1_b4_0 k1_b4_1 g1_b4_1 k1_b4_2 g1_b4_2 k1_b4_3 g1_b4_3 B1 z1; intro f hf; have u41 : f 41 = (.agg #[.int .u8 r, .int .u8 g, .int .u8 b, .int .u8 a]) := (by rw [← hf]; rfl); have u42 : f 42 = (.agg #[.int .u8 r, .int .u8 g, .int .u8 b, .int .u8 a]) := (by rw [← hf]; rfl); clear hf; rintro w' ⟨h0, h1, h2, h3, h4, h5, h6, h7, h8, h9, h10, h11, h12, h13, h14, h15⟩; go_simp; try exact IntWalk.i64_in _ (by omega)
  refine obe_val (by rfl) ?_ ?_
  · clear k1_b3_0 g1_b3_0 k1_b3_1 g1_b3_1 k1_b3_2 g1_b3_2 k1_b3_3 g1_b3_3 k1_b4_0 g1_b4_0 k1_b4_1 g1_b4_1 k1_b4_2 g1_b4_2 k1_b4_3 g1_b4_3 B1 z1; intro f hf; have u39 : f 39 = (.bool true) := (by rw [← hf]; rfl); have u43 : f 43 = (.bool true) := (by rw [← hf]; rfl); clear hf; rintro w' ⟨h0, h1, h2, h3, h4, h5, h6, h7, h8, h9, h10, h11, h12, h13, h14, h15⟩; go_simp; try exact IntWalk.i64_in _ (by omega)
  refine obe_val (by rfl) ?_ ?_
  · clear k1_b3_0 g1_b3_0 k1_b3_1 g1_b3_1 k1_b3_2 g1_b3_2 k1_b3_3 g1_b3_3 k1_b4_0 g1_b4_0 k1_b4_1 g1_b4_1 k1_b4_2 g1_b4_2 k1_b4_3 g1_b4_3 B1 z1; intro f hf; have u44 : f 44 = (.bool true) := (by rw [← hf]; rfl); clear hf; rintro w' ⟨h0, h1, h2, h3, h4, h5, h6, h7, h8, h9, h10, h11, h12, h13, h14, h15⟩; go_simp; try exact IntWalk.i64_in _ (by omega)
  refine obe_val (by rfl) ?_ ?_
  · clear k1_b3_0 g1_b3_0 k1_b3_1 g1_b3_1 k1_b3_2 g1_b3_2 k1_b3_3 g1_b3_3 k1_b4_0 g1_b4_0 k1_b4_1 g1_b4_1 k1_b4_2 g1_b4_2 k1_b4_3 g1_b4_3 B1 z1; intro f hf; have u3 : f 3 = (.pointer (some ⟨w.heap.size, 0, none⟩)) := (by rw [← hf]; rfl); clear hf; rintro w' ⟨h0, h1, h2, h3, h4, h5, h6, h7, h8, h9, h10, h11, h12, h13, h14, h15⟩; go_simp; try exact IntWalk.i64_in _ (by omega)
  refine obe_call (by rfl) ?_ ?_ ?_
  · clear k1_b3_0 g1_b3_0 k1_b3_1 g1_b3_1 k1_b3_2 g1_b3_2 k1_b3_3 g1_b3_3 k1_b4_0 g1_b4_0 k1_b4_1 g1_b4_1 k1_b4_2 g1_b4_2 k1_b4_3 g1_b4_3 B1 z1; intro f hf; have u46 : f 46 = (.agg #[.int .u8 r, .int .u8 g, .int .u8 b, .int .u8 a]) := (by rw [← hf]; rfl); clear hf; intro w' _; simp only [execOp, resolve, invoke, rhoF_tmp, rhoF_func, rhoF_const, u46, List.map_toArray, List.map_cons, List.map_nil]; go_simp
  · clear k1_b3_0 g1_b3_0 k1_b3_1 g1_b3_1 k1_b3_2 g1_b3_2 k1_b3_3 g1_b3_3 k1_b4_0 g1_b4_0 k1_b4_1 g1_b4_1 k1_b4_2 g1_b4_2 k1_b4_3 g1_b4_3 B1 z1; rintro w' ⟨h0, h1, h2, h3, h4, h5, h6, h7, h8, h9, h10, h11, h12, h13, h14, h15⟩; exact cs0 _
  refine obe_val (by rfl) ?_ ?_
  · clear k1_b3_0 g1_b3_0 k1_b3_1 g1_b3_1 k1_b3_2 g1_b3_2 k1_b3_3 g1_b3_3 k1_b4_0 g1_b4_0 k1_b4_1 g1_b4_1 k1_b4_2 g1_b4_2 k1_b4_3 g1_b4_3 B1 z1; intro f hf; clear hf; rintro w' ⟨h0, h1, h2, h3, h4, h5, h6, h7, h8, h9, h10, h11, h12, h13, h14, h15⟩; go_simp; try exact IntWalk.i64_in _ (by omega)
  refine obe_val (by rfl) ?_ ?_
  · clear k1_b3_0 g1_b3_0 k1_b3_1 g1_b3_1 k1_b3_2 g1_b3_2 k1_b3_3 g1_b3_3 k1_b4_0 g1_b4_0 k1_b4_1 g1_b4_1 k1_b4_2 g1_b4_2 k1_b4_3 g1_b4_3 B1 z1; intro f hf; have u47 : f 47 = (.agg #[.int .u8 0, .int .u8 0, .int .u8 0, .int .u8 0]) := (by rw [← hf]; rfl); have u48 : f 48 = (.agg #[.int .u8 0, .int .u8 0, .int .u8 0, .int .u8 0]) := (by rw [← hf]; rfl); clear hf; rintro w' ⟨h0, h1, h2, h3, h4, h5, h6, h7, h8, h9, h10, h11, h12, h13, h14, h15⟩; go_simp; try exact IntWalk.i64_in _ (by omega)
  refine obe_val (by rfl) ?_ ?_
  · clear k1_b3_0 g1_b3_0 k1_b3_1 g1_b3_1 k1_b3_2 g1_b3_2 k1_b3_3 g1_b3_3 k1_b4_0 g1_b4_0 k1_b4_1 g1_b4_1 k1_b4_2 g1_b4_2 k1_b4_3 g1_b4_3 B1 z1; intro f hf; have u45 : f 45 = (.bool true) := (by rw [← hf]; rfl); have u49 : f 49 = (.bool true) := (by rw [← hf]; rfl); clear hf; rintro w' ⟨h0, h1, h2, h3, h4, h5, h6, h7, h8, h9, h10, h11, h12, h13, h14, h15⟩; go_simp; try exact IntWalk.i64_in _ (by omega)
  refine obe_val (by rfl) ?_ ?_
  · clear k1_b3_0 g1_b3_0 k1_b3_1 g1_b3_1 k1_b3_2 g1_b3_2 k1_b3_3 g1_b3_3 k1_b4_0 g1_b4_0 k1_b4_1 g1_b4_1 k1_b4_2 g1_b4_2 k1_b4_3 g1_b4_3 B1 z1; intro f hf; have u50 : f 50 = (.bool true) := (by rw [← hf]; rfl); clear hf; rintro w' ⟨h0, h1, h2, h3, h4, h5, h6, h7, h8, h9, h10, h11, h12, h13, h14, h15⟩; go_simp; try exact IntWalk.i64_in _ (by omega)
  refine obe_call (by rfl) ?_ ?_ ?_
  · clear k1_b3_0 g1_b3_0 k1_b3_1 g1_b3_1 k1_b3_2 g1_b3_2 k1_b3_3 g1_b3_3 k1_b4_0 g1_b4_0 k1_b4_1 g1_b4_1 k1_b4_2 g1_b4_2 k1_b4_3 g1_b4_3 B1 z1; intro f hf; clear hf; intro w' _; simp only [execOp, resolve, invoke, rhoF_tmp, rhoF_func, rhoF_const, List.map_toArray, List.map_cons, List.map_nil]; go_simp
  · clear k1_b3_0 g1_b3_0 k1_b3_1 g1_b3_1 k1_b3_2 g1_b3_2 k1_b3_3 g1_b3_3 k1_b4_0 g1_b4_0 k1_b4_1 g1_b4_1 k1_b4_2 g1_b4_2 k1_b4_3 g1_b4_3 B1 z1; rintro w' ⟨h0, h1, h2, h3, h4, h5, h6, h7, h8, h9, h10, h11, h12, h13, h14, h15⟩; exact cex_any _
  refine obe_val (by rfl) ?_ ?_
  · clear k1_b3_0 g1_b3_0 k1_b3_1 g1_b3_1 k1_b3_2 g1_b3_2 k1_b3_3 g1_b3_3 k1_b4_0 g1_b4_0 k1_b4_1 g1_b4_1 k1_b4_2 g1_b4_2 k1_b4_3 g1_b4_3 B1 z1; intro f hf; have u51 : f 51 = (.bool true) := (by rw [← hf]; rfl); have u52 : f 52 = (.bool true) := (by rw [← hf]; rfl); clear hf; rintro w' ⟨h0, h1, h2, h3, h4, h5, h6, h7, h8, h9, h10, h11, h12, h13, h14, h15⟩; go_simp; try exact IntWalk.i64_in _ (by omega)
  refine obe_val (by rfl) ?_ ?_
  · clear k1_b3_0 g1_b3_0 k1_b3_1 g1_b3_1 k1_b3_2 g1_b3_2 k1_b3_3 g1_b3_3 k1_b4_0 g1_b4_0 k1_b4_1 g1_b4_1 k1_b4_2 g1_b4_2 k1_b4_3 g1_b4_3 B1 z1; intro f hf; have u53 : f 53 = (.bool true) := (by rw [← hf]; rfl); clear hf; rintro w' ⟨h0, h1, h2, h3, h4, h5, h6, h7, h8, h9, h10, h11, h12, h13, h14, h15⟩; go_simp; try exact IntWalk.i64_in _ (by omega)
  refine obe_nil ?_
  rintro w2 ⟨h0, h1, h2, h3, h4, h5, h6, h7, h8, h9, h10, h11, h12, h13, h14, h15⟩ hb2 hF
  (try simp only [List.nil_append, List.append_nil, List.cons_append] at hF)
  simp only [puts, putD, Act.put, List.setIfInBounds_toArray, List.set_cons_zero, List.set_cons_succ]
  clear hF
  have k2_b3_0 := bcs hb2 k1_b3_0
  have g2_b3_0 := bfs hb2 k1_b3_0 g1_b3_0
  have k2_b3_1 := bcs hb2 k1_b3_1
  have g2_b3_1 := bfs hb2 k1_b3_1 g1_b3_1
  have k2_b3_2 := bcs hb2 k1_b3_2
  have g2_b3_2 := bfs hb2 k1_b3_2 g1_b3_2
  have k2_b3_3 := bcs hb2 k1_b3_3
  have g2_b3_3 := bfs hb2 k1_b3_3 g1_b3_3
  have k2_b4_0 := bcs hb2 k1_b4_0
  have g2_b4_0 := bfs hb2 k1_b4_0 g1_b4_0
  have k2_b4_1 := bcs hb2 k1_b4_1
  have g2_b4_1 := bfs hb2 k1_b4_1 g1_b4_1
  have k2_b4_2 := bcs hb2 k1_b4_2
  have g2_b4_2 := bfs hb2 k1_b4_2 g1_b4_2
  have k2_b4_3 := bcs hb2 k1_b4_3
  have g2_b4_3 := bfs hb2 k1_b4_3 g1_b4_3
  clear h0 h1 h2 h3 h4 h5 h6 h7 h8 h9 h10 h11 h12 h13 h14 h15
  have B2 := bel_step B1 hb2
  have z2 := Nat.le_trans z1 hb2.size
  clear hb2
  (try clear B1)
  (try clear z1)
  (try clear k1_b3_0)
  (try clear g1_b3_0)
  (try clear k1_b3_1)
  (try clear g1_b3_1)
  (try clear k1_b3_2)
  (try clear g1_b3_2)
  (try clear k1_b3_3)
  (try clear g1_b3_3)
  (try clear k1_b4_0)
  (try clear g1_b4_0)
  (try clear k1_b4_1)
  (try clear g1_b4_1)
  (try clear k1_b4_2)
  (try clear g1_b4_2)
  (try clear k1_b4_3)
  (try clear g1_b4_3)
  (try clear q1_b3)
  (try clear x1_b3)
  (try clear y1_b3)
  (try clear q1_b4)
  (try clear x1_b4)
  (try clear y1_b4)
  have q2_b3 : w.heap.size < w2.heap.size := qlt k2_b3_0
  have x2_b3 : ¬ w.heap.size = w2.heap.size := qne k2_b3_0
  have y2_b3 : ¬ w2.heap.size = w.heap.size := fun h => qne k2_b3_0 h.symm
  have q2_b4 : w.heap.size + 1 < w2.heap.size := qlt k2_b4_0
  have x2_b4 : ¬ w.heap.size + 1 = w2.heap.size := qne k2_b4_0
  have y2_b4 : ¬ w2.heap.size = w.heap.size + 1 := fun h => qne k2_b4_0 h.symm
  unfold wpList
  go_wp2
  go_ret
  refine ⟨rfl, ?_⟩
  repeat (first | with_reducible exact Below.refl _ _ | with_reducible exact B2 | with_reducible apply below_drewN | with_reducible apply Below.drew | (with_reducible refine Below.alloc ?_ (by first | (simp; done) | (simp; omega) | omega) _) | (with_reducible refine Below.setCell ?_ (by first | (simp; done) | (simp; omega) | omega) _))
end Go.Proofs.Ytfaiogomhjmhhaa
