import Derived.Test.YtgaabdidddglhaaM5
import Derived.Test.YtgaabdidddglhaaM6
import Derived.WalkKit
import Derived.WalkSpells
import Derived.WalkLawsBesides
import Derived.Lib.Hide
import Derived.Below
import Derived.Deep.QuietTactic
import Derived.BigQuiet
import Derived.Deep.RegionHeld3
import Derived.Deep.DrawnRows
import Derived.Deep.DeepFit
import Derived.IntWalk
namespace Go.Proofs.Ytgaabdidddglhaa
open Go.RowKit
set_option linter.unusedVariables false
set_option linter.unusedSimpArgs false
attribute [local go_sem ↓] Go.wp_at_zero Go.wp_at_succ
attribute [local go_sem] rhoF_tmp rhoF_const rhoF_global rhoF_func

set_option maxHeartbeats 4000000 in
theorem coper_w (op r g b a s t u d : Int) (r0 : 0 ≤ r) (r1 : r ≤ 255) (g0 : 0 ≤ g) (g1 : g ≤ 255) (b0 : 0 ≤ b) (b1 : b ≤ 255) (a0 : 0 ≤ a) (a1 : a ≤ 255) (s0 : 0 ≤ s) (s1 : s ≤ 255) (t0 : 0 ≤ t) (t1 : t ≤ 255) (u0 : 0 ≤ u) (u1 : u ≤ 255) (d0 : 0 ≤ d) (d1 : d ≤ 255) (hw : (Lit.int .i64 op).wf = true) (w : World) :
    Calls Try.prog 4 #[.int .i64 op, .agg #[.int .u8 r, .int .u8 g, .int .u8 b, .int .u8 a], .agg #[.int .u8 s, .int .u8 t, .int .u8 u, .int .u8 d]] w fun e w' => e = .returned (.bool true) ∧ Below w.heap.size w w' := by
  have cc := fun w => compose_any op r g b a s t u d r0 r1 g0 g1 b0 b1 a0 a1 s0 s1 t0 t1 u0 u1 d0 d1 hw w
  have cr := fun w => rcompose_any op r g b a s t u d r0 r1 g0 g1 b0 b1 a0 a1 s0 s1 t0 t1 u0 u1 d0 d1 w
  obtain ⟨l0, hl0⟩ : ∃ z, cpv (min r a) (min s d) (fac1 op a d) (ff2 op a d) = z := ⟨_, rfl⟩
  obtain ⟨l1, hl1⟩ : ∃ z, cpv (min g a) (min t d) (fac1 op a d) (ff2 op a d) = z := ⟨_, rfl⟩
  obtain ⟨l2, hl2⟩ : ∃ z, cpv (min b a) (min u d) (fac1 op a d) (ff2 op a d) = z := ⟨_, rfl⟩
  obtain ⟨l3, hl3⟩ : ∃ z, cpv (a) (d) (fac1 op a d) (ff2 op a d) = z := ⟨_, rfl⟩
  rw [hl0, hl1, hl2, hl3] at cc cr
  clear hl0 hl1 hl2 hl3
  go_enter Try.func4, Try.ntmps4
  go_wp2
  refine wp_region_env (fun w' => w'.cell? ⟨w.heap.size, 0, none⟩ = some (.int .u8 r) ∧ w'.frozen? ⟨w.heap.size, 0, none⟩ = false ∧ w'.cell? ⟨w.heap.size, 1, none⟩ = some (.int .u8 g) ∧ w'.frozen? ⟨w.heap.size, 1, none⟩ = false ∧ w'.cell? ⟨w.heap.size, 2, none⟩ = some (.int .u8 b) ∧ w'.frozen? ⟨w.heap.size, 2, none⟩ = false ∧ w'.cell? ⟨w.heap.size, 3, none⟩ = some (.int .u8 a) ∧ w'.frozen? ⟨w.heap.size, 3, none⟩ = false ∧ w'.cell? ⟨w.heap.size + 1, 0, none⟩ = some (.int .u8 s) ∧ w'.frozen? ⟨w.heap.size + 1, 0, none⟩ = false ∧ w'.cell? ⟨w.heap.size + 1, 1, none⟩ = some (.int .u8 t) ∧ w'.frozen? ⟨w.heap.size + 1, 1, none⟩ = false ∧ w'.cell? ⟨w.heap.size + 1, 2, none⟩ = some (.int .u8 u) ∧ w'.frozen? ⟨w.heap.size + 1, 2, none⟩ = false ∧ w'.cell? ⟨w.heap.size + 1, 3, none⟩ = some (.int .u8 d) ∧ w'.frozen? ⟨w.heap.size + 1, 3, none⟩ = false) (fun W => W.cell? ⟨w.heap.size, 0, none⟩ = some (.int .u8 r) ∧ W.frozen? ⟨w.heap.size, 0, none⟩ = false ∧ W.cell? ⟨w.heap.size, 1, none⟩ = some (.int .u8 g) ∧ W.frozen? ⟨w.heap.size, 1, none⟩ = false ∧ W.cell? ⟨w.heap.size, 2, none⟩ = some (.int .u8 b) ∧ W.frozen? ⟨w.heap.size, 2, none⟩ = false ∧ W.cell? ⟨w.heap.size, 3, none⟩ = some (.int .u8 a) ∧ W.frozen? ⟨w.heap.size, 3, none⟩ = false ∧ W.cell? ⟨w.heap.size + 1, 0, none⟩ = some (.int .u8 s) ∧ W.frozen? ⟨w.heap.size + 1, 0, none⟩ = false ∧ W.cell? ⟨w.heap.size + 1, 1, none⟩ = some (.int .u8 t) ∧ W.frozen? ⟨w.heap.size + 1, 1, none⟩ = false ∧ W.cell? ⟨w.heap.size + 1, 2, none⟩ = some (.int .u8 u) ∧ W.frozen? ⟨w.heap.size + 1, 2, none⟩ = false ∧ W.cell? ⟨w.heap.size + 1, 3, none⟩ = some (.int .u8 d) ∧ W.frozen? ⟨w.heap.size + 1, 3, none⟩ = false ∧ Below w.heap.size w W ∧ w.heap.size + 1 + 1 ≤ W.heap.size) 13 19 [.val (.int .i64 op), .val (.agg #[.int .u8 r, .int .u8 g, .int .u8 b, .int .u8 a]), .val (.agg #[.int .u8 s, .int .u8 t, .int .u8 u, .int .u8 d]), .call 15 #[.int .i64 op, .agg #[.int .u8 r, .int .u8 g, .int .u8 b, .int .u8 a], .agg #[.int .u8 s, .int .u8 t, .int .u8 u, .int .u8 d]] (.agg #[.int .u8 l0, .int .u8 l1, .int .u8 l2, .int .u8 l3]), .val (.int .i64 op), .val (.agg #[.int .u8 r, .int .u8 g, .int .u8 b, .int .u8 a]), .val (.agg #[.int .u8 s, .int .u8 t, .int .u8 u, .int .u8 d]), .call 16 #[.int .i64 op, .agg #[.int .u8 r, .int .u8 g, .int .u8 b, .int .u8 a], .agg #[.int .u8 s, .int .u8 t, .int .u8 u, .int .u8 d]] (.agg #[.int .u8 l0, .int .u8 l1, .int .u8 l2, .int .u8 l3]), .val (.bool true), .val (.bool true), .call 14 #[] (.bool true), .val (.bool true), .val (.bool true)] (by kernel_rfl) (by kernel_rfl) rfl (by kernel_rfl) (by rintro w1 w2 ⟨h0, h1, h2, h3, h4, h5, h6, h7, h8, h9, h10, h11, h12, h13, h14, h15⟩ hb; exact ⟨bcs hb h0, bfs hb h0 h1, bcs hb h2, bfs hb h2 h3, bcs hb h4, bfs hb h4 h5, bcs hb h6, bfs hb h6 h7, bcs hb h8, bfs hb h8 h9, bcs hb h10, bfs hb h10 h11, bcs hb h12, bfs hb h12 h13, bcs hb h14, bfs hb h14 h15⟩) ⟨by first | with_reducible assumption | go_simp, by first | with_reducible assumption | go_simp, by first | with_reducible assumption | go_simp, by first | with_reducible assumption | go_simp, by first | with_reducible assumption | go_simp, by first | with_reducible assumption | go_simp, by first | with_reducible assumption | go_simp, by first | with_reducible assumption | go_simp, by first | with_reducible assumption | go_simp, by first | with_reducible assumption | go_simp, by first | with_reducible assumption | go_simp, by first | with_reducible assumption | go_simp, by first | with_reducible assumption | go_simp, by first | with_reducible assumption | go_simp, by first | with_reducible assumption | go_simp, by first | with_reducible assumption | go_simp, by repeat (first | with_reducible exact Below.refl _ _ | fail | with_reducible apply below_drewN | with_reducible apply Below.drew | (with_reducible refine Below.alloc ?_ (by first | (simp; done) | (simp; omega) | omega) _) | (with_reducible refine Below.setCell ?_ (by first | (simp; done) | (simp; omega) | omega) _)), by first | with_reducible assumption | (simp; done) | (simp; omega)⟩ ?_ ?_
  · rintro W ⟨k1_b4_0, g1_b4_0, k1_b4_1, g1_b4_1, k1_b4_2, g1_b4_2, k1_b4_3, g1_b4_3, k1_b5_0, g1_b5_0, k1_b5_1, g1_b5_1, k1_b5_2, g1_b5_2, k1_b5_3, g1_b5_3, B1, z1⟩; exact ⟨k1_b4_0, g1_b4_0, k1_b4_1, g1_b4_1, k1_b4_2, g1_b4_2, k1_b4_3, g1_b4_3, k1_b5_0, g1_b5_0, k1_b5_1, g1_b5_1, k1_b5_2, g1_b5_2, k1_b5_3, g1_b5_3⟩
  rintro w1 ⟨k1_b4_0, g1_b4_0, k1_b4_1, g1_b4_1, k1_b4_2, g1_b4_2, k1_b4_3, g1_b4_3, k1_b5_0, g1_b5_0, k1_b5_1, g1_b5_1, k1_b5_2, g1_b5_2, k1_b5_3, g1_b5_3, B1, z1⟩ gg
  simp only [List.take_succ_cons, List.take_zero, List.drop_succ_cons, List.drop_zero, List.cons_append, List.nil_append, List.append_nil]
  refine obe_val (by rfl) ?_ ?_
  · clear k1_b4_0 g1_b4_0 k1_b4_1 g1_b4_1 k1_b4_2 g1_b4_2 k1_b4_3 g1_b4_3 k1_b5_0 g1_b5_0 k1_b5_1 g1_b5_1 k1_b5_2 g1_b5_2 k1_b5_3 g1_b5_3 B1 z1; intro f hf; have u0 : f 0 = (.int .i64 op) := (by rw [← hf]; rfl); clear hf; rintro w' ⟨h0, h1, h2, h3, h4, h5, h6, h7, h8, h9, h10, h11, h12, h13, h14, h15⟩; go_simp; try exact IntWalk.i64_in _ (by omega)
  refine obe_val (by rfl) ?_ ?_
  · clear k1_b4_0 g1_b4_0 k1_b4_1 g1_b4_1 k1_b4_2 g1_b4_2 k1_b4_3 g1_b4_3 k1_b5_0 g1_b5_0 k1_b5_1 g1_b5_1 k1_b5_2 g1_b5_2 k1_b5_3 g1_b5_3 B1 z1; intro f hf; have u4 : f 4 = (.pointer (some ⟨w.heap.size, 0, none⟩)) := (by rw [← hf]; rfl); clear hf; rintro w' ⟨h0, h1, h2, h3, h4, h5, h6, h7, h8, h9, h10, h11, h12, h13, h14, h15⟩; go_simp; try exact IntWalk.i64_in _ (by omega)
  refine obe_val (by rfl) ?_ ?_
  · clear k1_b4_0 g1_b4_0 k1_b4_1 g1_b4_1 k1_b4_2 g1_b4_2 k1_b4_3 g1_b4_3 k1_b5_0 g1_b5_0 k1_b5_1 g1_b5_1 k1_b5_2 g1_b5_2 k1_b5_3 g1_b5_3 B1 z1; intro f hf; have u5 : f 5 = (.pointer (some ⟨w.heap.size + 1, 0, none⟩)) := (by rw [← hf]; rfl); clear hf; rintro w' ⟨h0, h1, h2, h3, h4, h5, h6, h7, h8, h9, h10, h11, h12, h13, h14, h15⟩; go_simp; try exact IntWalk.i64_in _ (by omega)
  refine obe_call (by rfl) ?_ ?_ ?_
  · clear k1_b4_0 g1_b4_0 k1_b4_1 g1_b4_1 k1_b4_2 g1_b4_2 k1_b4_3 g1_b4_3 k1_b5_0 g1_b5_0 k1_b5_1 g1_b5_1 k1_b5_2 g1_b5_2 k1_b5_3 g1_b5_3 B1 z1; intro f hf; have u7 : f 7 = (.int .i64 op) := (by rw [← hf]; rfl); have u8 : f 8 = (.agg #[.int .u8 r, .int .u8 g, .int .u8 b, .int .u8 a]) := (by rw [← hf]; rfl); have u9 : f 9 = (.agg #[.int .u8 s, .int .u8 t, .int .u8 u, .int .u8 d]) := (by rw [← hf]; rfl); clear hf; intro w' _; simp only [execOp, resolve, invoke, rhoF_tmp, rhoF_func, rhoF_const, u7, u8, u9, List.map_toArray, List.map_cons, List.map_nil]; go_simp
  · clear k1_b4_0 g1_b4_0 k1_b4_1 g1_b4_1 k1_b4_2 g1_b4_2 k1_b4_3 g1_b4_3 k1_b5_0 g1_b5_0 k1_b5_1 g1_b5_1 k1_b5_2 g1_b5_2 k1_b5_3 g1_b5_3 B1 z1; rintro w' ⟨h0, h1, h2, h3, h4, h5, h6, h7, h8, h9, h10, h11, h12, h13, h14, h15⟩; exact cc _
  refine obe_val (by rfl) ?_ ?_
  · clear k1_b4_0 g1_b4_0 k1_b4_1 g1_b4_1 k1_b4_2 g1_b4_2 k1_b4_3 g1_b4_3 k1_b5_0 g1_b5_0 k1_b5_1 g1_b5_1 k1_b5_2 g1_b5_2 k1_b5_3 g1_b5_3 B1 z1; intro f hf; have u0 : f 0 = (.int .i64 op) := (by rw [← hf]; rfl); clear hf; rintro w' ⟨h0, h1, h2, h3, h4, h5, h6, h7, h8, h9, h10, h11, h12, h13, h14, h15⟩; go_simp; try exact IntWalk.i64_in _ (by omega)
  refine obe_val (by rfl) ?_ ?_
  · clear k1_b4_0 g1_b4_0 k1_b4_1 g1_b4_1 k1_b4_2 g1_b4_2 k1_b4_3 g1_b4_3 k1_b5_0 g1_b5_0 k1_b5_1 g1_b5_1 k1_b5_2 g1_b5_2 k1_b5_3 g1_b5_3 B1 z1; intro f hf; have u4 : f 4 = (.pointer (some ⟨w.heap.size, 0, none⟩)) := (by rw [← hf]; rfl); clear hf; rintro w' ⟨h0, h1, h2, h3, h4, h5, h6, h7, h8, h9, h10, h11, h12, h13, h14, h15⟩; go_simp; try exact IntWalk.i64_in _ (by omega)
  refine obe_val (by rfl) ?_ ?_
  · clear k1_b4_0 g1_b4_0 k1_b4_1 g1_b4_1 k1_b4_2 g1_b4_2 k1_b4_3 g1_b4_3 k1_b5_0 g1_b5_0 k1_b5_1 g1_b5_1 k1_b5_2 g1_b5_2 k1_b5_3 g1_b5_3 B1 z1; intro f hf; have u5 : f 5 = (.pointer (some ⟨w.heap.size + 1, 0, none⟩)) := (by rw [← hf]; rfl); clear hf; rintro w' ⟨h0, h1, h2, h3, h4, h5, h6, h7, h8, h9, h10, h11, h12, h13, h14, h15⟩; go_simp; try exact IntWalk.i64_in _ (by omega)
  refine obe_call (by rfl) ?_ ?_ ?_
  · clear k1_b4_0 g1_b4_0 k1_b4_1 g1_b4_1 k1_b4_2 g1_b4_2 k1_b4_3 g1_b4_3 k1_b5_0 g1_b5_0 k1_b5_1 g1_b5_1 k1_b5_2 g1_b5_2 k1_b5_3 g1_b5_3 B1 z1; intro f hf; have u11 : f 11 = (.int .i64 op) := (by rw [← hf]; rfl); have u12 : f 12 = (.agg #[.int .u8 r, .int .u8 g, .int .u8 b, .int .u8 a]) := (by rw [← hf]; rfl); have u13 : f 13 = (.agg #[.int .u8 s, .int .u8 t, .int .u8 u, .int .u8 d]) := (by rw [← hf]; rfl); clear hf; intro w' _; simp only [execOp, resolve, invoke, rhoF_tmp, rhoF_func, rhoF_const, u11, u12, u13, List.map_toArray, List.map_cons, List.map_nil]; go_simp
  · clear k1_b4_0 g1_b4_0 k1_b4_1 g1_b4_1 k1_b4_2 g1_b4_2 k1_b4_3 g1_b4_3 k1_b5_0 g1_b5_0 k1_b5_1 g1_b5_1 k1_b5_2 g1_b5_2 k1_b5_3 g1_b5_3 B1 z1; rintro w' ⟨h0, h1, h2, h3, h4, h5, h6, h7, h8, h9, h10, h11, h12, h13, h14, h15⟩; exact cr _
  refine obe_val (by rfl) ?_ ?_
  · clear k1_b4_0 g1_b4_0 k1_b4_1 g1_b4_1 k1_b4_2 g1_b4_2 k1_b4_3 g1_b4_3 k1_b5_0 g1_b5_0 k1_b5_1 g1_b5_1 k1_b5_2 g1_b5_2 k1_b5_3 g1_b5_3 B1 z1; intro f hf; have u10 : f 10 = (.agg #[.int .u8 l0, .int .u8 l1, .int .u8 l2, .int .u8 l3]) := (by rw [← hf]; rfl); have u14 : f 14 = (.agg #[.int .u8 l0, .int .u8 l1, .int .u8 l2, .int .u8 l3]) := (by rw [← hf]; rfl); clear hf; rintro w' ⟨h0, h1, h2, h3, h4, h5, h6, h7, h8, h9, h10, h11, h12, h13, h14, h15⟩; go_simp; try exact IntWalk.i64_in _ (by omega)
  refine obe_val (by rfl) ?_ ?_
  · clear k1_b4_0 g1_b4_0 k1_b4_1 g1_b4_1 k1_b4_2 g1_b4_2 k1_b4_3 g1_b4_3 k1_b5_0 g1_b5_0 k1_b5_1 g1_b5_1 k1_b5_2 g1_b5_2 k1_b5_3 g1_b5_3 B1 z1; intro f hf; have u15 : f 15 = (.bool true) := (by rw [← hf]; rfl); clear hf; rintro w' ⟨h0, h1, h2, h3, h4, h5, h6, h7, h8, h9, h10, h11, h12, h13, h14, h15⟩; go_simp; try exact IntWalk.i64_in _ (by omega)
  refine obe_call (by rfl) ?_ ?_ ?_
  · clear k1_b4_0 g1_b4_0 k1_b4_1 g1_b4_1 k1_b4_2 g1_b4_2 k1_b4_3 g1_b4_3 k1_b5_0 g1_b5_0 k1_b5_1 g1_b5_1 k1_b5_2 g1_b5_2 k1_b5_3 g1_b5_3 B1 z1; intro f hf; clear hf; intro w' _; simp only [execOp, resolve, invoke, rhoF_tmp, rhoF_func, rhoF_const, List.map_toArray, List.map_cons, List.map_nil]; go_simp
  · clear k1_b4_0 g1_b4_0 k1_b4_1 g1_b4_1 k1_b4_2 g1_b4_2 k1_b4_3 g1_b4_3 k1_b5_0 g1_b5_0 k1_b5_1 g1_b5_1 k1_b5_2 g1_b5_2 k1_b5_3 g1_b5_3 B1 z1; rintro w' ⟨h0, h1, h2, h3, h4, h5, h6, h7, h8, h9, h10, h11, h12, h13, h14, h15⟩; exact cex_any _
  refine obe_val (by rfl) ?_ ?_
  · clear k1_b4_0 g1_b4_0 k1_b4_1 g1_b4_1 k1_b4_2 g1_b4_2 k1_b4_3 g1_b4_3 k1_b5_0 g1_b5_0 k1_b5_1 g1_b5_1 k1_b5_2 g1_b5_2 k1_b5_3 g1_b5_3 B1 z1; intro f hf; have u16 : f 16 = (.bool true) := (by rw [← hf]; rfl); have u17 : f 17 = (.bool true) := (by rw [← hf]; rfl); clear hf; rintro w' ⟨h0, h1, h2, h3, h4, h5, h6, h7, h8, h9, h10, h11, h12, h13, h14, h15⟩; go_simp; try exact IntWalk.i64_in _ (by omega)
  refine obe_val (by rfl) ?_ ?_
  · clear k1_b4_0 g1_b4_0 k1_b4_1 g1_b4_1 k1_b4_2 g1_b4_2 k1_b4_3 g1_b4_3 k1_b5_0 g1_b5_0 k1_b5_1 g1_b5_1 k1_b5_2 g1_b5_2 k1_b5_3 g1_b5_3 B1 z1; intro f hf; have u18 : f 18 = (.bool true) := (by rw [← hf]; rfl); clear hf; rintro w' ⟨h0, h1, h2, h3, h4, h5, h6, h7, h8, h9, h10, h11, h12, h13, h14, h15⟩; go_simp; try exact IntWalk.i64_in _ (by omega)
  refine obe_nil ?_
  rintro w2 ⟨h0, h1, h2, h3, h4, h5, h6, h7, h8, h9, h10, h11, h12, h13, h14, h15⟩ hb2 hF
  (try simp only [List.nil_append, List.append_nil, List.cons_append] at hF)
  simp only [puts, putD, Act.put, List.setIfInBounds_toArray, List.set_cons_zero, List.set_cons_succ]
  clear hF
  have k2_b4_0 := bcs hb2 k1_b4_0
  have g2_b4_0 := bfs hb2 k1_b4_0 g1_b4_0
  have k2_b4_1 := bcs hb2 k1_b4_1
  have g2_b4_1 := bfs hb2 k1_b4_1 g1_b4_1
  have k2_b4_2 := bcs hb2 k1_b4_2
  have g2_b4_2 := bfs hb2 k1_b4_2 g1_b4_2
  have k2_b4_3 := bcs hb2 k1_b4_3
  have g2_b4_3 := bfs hb2 k1_b4_3 g1_b4_3
  have k2_b5_0 := bcs hb2 k1_b5_0
  have g2_b5_0 := bfs hb2 k1_b5_0 g1_b5_0
  have k2_b5_1 := bcs hb2 k1_b5_1
  have g2_b5_1 := bfs hb2 k1_b5_1 g1_b5_1
  have k2_b5_2 := bcs hb2 k1_b5_2
  have g2_b5_2 := bfs hb2 k1_b5_2 g1_b5_2
  have k2_b5_3 := bcs hb2 k1_b5_3
  have g2_b5_3 := bfs hb2 k1_b5_3 g1_b5_3
  clear h0 h1 h2 h3 h4 h5 h6 h7 h8 h9 h10 h11 h12 h13 h14 h15
  have B2 := bel_step B1 hb2
  have z2 := Nat.le_trans z1 hb2.size
  clear hb2
  (try clear B1)
  (try clear z1)
  (try clear k1_b4_0)
  (try clear g1_b4_0)
  (try clear k1_b4_1)
  (try clear g1_b4_1)
  (try clear k1_b4_2)
  (try clear g1_b4_2)
  (try clear k1_b4_3)
  (try clear g1_b4_3)
  (try clear k1_b5_0)
  (try clear g1_b5_0)
  (try clear k1_b5_1)
  (try clear g1_b5_1)
  (try clear k1_b5_2)
  (try clear g1_b5_2)
  (try clear k1_b5_3)
  (try clear g1_b5_3)
  (try clear q1_b4)
  (try clear x1_b4)
  (try clear y1_b4)
  (try clear q1_b5)
  (try clear x1_b5)
  (try clear y1_b5)
  have q2_b4 : w.heap.size < w2.heap.size := qlt k2_b4_0
  have x2_b4 : ¬ w.heap.size = w2.heap.size := qne k2_b4_0
  have y2_b4 : ¬ w2.heap.size = w.heap.size := fun h => qne k2_b4_0 h.symm
  have q2_b5 : w.heap.size + 1 < w2.heap.size := qlt k2_b5_0
  have x2_b5 : ¬ w.heap.size + 1 = w2.heap.size := qne k2_b5_0
  have y2_b5 : ¬ w2.heap.size = w.heap.size + 1 := fun h => qne k2_b5_0 h.symm
  unfold wpList
  go_wp2
  go_ret
  refine ⟨rfl, ?_⟩
  repeat (first | with_reducible exact Below.refl _ _ | with_reducible exact B2 | with_reducible apply below_drewN | with_reducible apply Below.drew | (with_reducible refine Below.alloc ?_ (by first | (simp; done) | (simp; omega) | omega) _) | (with_reducible refine Below.setCell ?_ (by first | (simp; done) | (simp; omega) | omega) _))
end Go.Proofs.Ytgaabdidddglhaa
