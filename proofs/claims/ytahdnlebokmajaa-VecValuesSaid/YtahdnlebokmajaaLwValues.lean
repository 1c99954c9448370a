import Derived.Test.YtahdnlebokmajaaV3
import Derived.Test.YtahdnlebokmajaaVex
import Derived.Test.YtahdnlebokmajaaEnv
import Derived.WalkKit
import Derived.WalkSpells
import Derived.WalkLawsBesides
import Derived.Lib.Hide
import Derived.Below
import Derived.Deep.QuietTactic
import Derived.BigQuiet
import Derived.Deep.RegionHeld3
import Derived.Deep.DrawnRows
import Derived.Deep.DeepFit
import Derived.IntWalk
namespace Go.Proofs.Ytahdnlebokmajaa
open Go.RowKit
set_option linter.unusedVariables false
set_option linter.unusedSimpArgs false
attribute [local go_sem ↓] Go.wp_at_zero Go.wp_at_succ
attribute [local go_sem] rhoF_tmp rhoF_const rhoF_global rhoF_func

theorem len_ex (x y : Int) : ∃ r : Int, 0 ≤ r ∧ r * r ≤ 65536 * (hold x * hold x + hold y * hold y) ∧ 65536 * (hold x * hold x + hold y * hold y) < (r + 1) * (r + 1) ∧ r ≤ 536870912 := by
  obtain ⟨b0, b1⟩ := hold_bd x
  obtain ⟨b2, b3⟩ := hold_bd y
  have mx := mul_bd (hold x) (hold x) 1048576 1048576 (by omega) (by omega) (by omega) (by omega)
  have my := mul_bd (hold y) (hold y) 1048576 1048576 (by omega) (by omega) (by omega) (by omega)
  have sx := sq_nonneg (hold x)
  have sy := sq_nonneg (hold y)
  obtain ⟨r, r0, r1, rr0, rr1, rr2, rr3⟩ := isqrt_int (65536 * (hold x * hold x + hold y * hold y)) (by omega) (by omega)
  refine ⟨r, r0, rr1, rr2, ?_⟩
  by_cases c : 536870913 ≤ r
  · have := Int.mul_le_mul c c (by omega) (by omega)
    omega
  · omega

set_option maxRecDepth 20000 in
set_option maxHeartbeats 8000000 in
theorem vecValues_w (x y u v : Int) (w : World) :
    Calls Try.prog 3 #[.agg #[.int .i64 x, .int .i64 y], .agg #[.int .i64 u, .int .i64 v]] w fun e w' => e = .returned (.bool true) ∧ Below w.heap.size w w' := by
  obtain ⟨r, r0, g1, g2, r1⟩ := len_ex x y
  have hl1 := Lib.hid g1
  have hl2 := Lib.hid g2
  clear g1 g2
  go_enter Try.func3, Try.ntmps3
  go_wp2
  refine wp_region_env (fun w' => w'.cell? ⟨w.heap.size, 0, none⟩ = some (.int .i64 x) ∧ w'.frozen? ⟨w.heap.size, 0, none⟩ = false ∧ w'.cell? ⟨w.heap.size, 1, none⟩ = some (.int .i64 y) ∧ w'.frozen? ⟨w.heap.size, 1, none⟩ = false ∧ w'.cell? ⟨w.heap.size + 1, 0, none⟩ = some (.int .i64 u) ∧ w'.frozen? ⟨w.heap.size + 1, 0, none⟩ = false ∧ w'.cell? ⟨w.heap.size + 1, 1, none⟩ = some (.int .i64 v) ∧ w'.frozen? ⟨w.heap.size + 1, 1, none⟩ = false) (fun W => W.cell? ⟨w.heap.size, 0, none⟩ = some (.int .i64 x) ∧ W.frozen? ⟨w.heap.size, 0, none⟩ = false ∧ W.cell? ⟨w.heap.size, 1, none⟩ = some (.int .i64 y) ∧ W.frozen? ⟨w.heap.size, 1, none⟩ = false ∧ W.cell? ⟨w.heap.size + 1, 0, none⟩ = some (.int .i64 u) ∧ W.frozen? ⟨w.heap.size + 1, 0, none⟩ = false ∧ W.cell? ⟨w.heap.size + 1, 1, none⟩ = some (.int .i64 v) ∧ W.frozen? ⟨w.heap.size + 1, 1, none⟩ = false ∧ Below w.heap.size w W ∧ w.heap.size + 1 + 1 ≤ W.heap.size) 68 72 [.val (.agg #[.int .i64 x, .int .i64 y]), .call 9 #[.agg #[.int .i64 x, .int .i64 y]] (.bool (vB x y)), .val (.agg #[.int .i64 x, .int .i64 y]), .call 10 #[.agg #[.int .i64 x, .int .i64 y]] (.bool (vB x y)), .val (.bool true), .val (.bool true), .val (.agg #[.int .i64 x, .int .i64 y]), .val (.agg #[.int .i64 u, .int .i64 v]), .call 11 #[.agg #[.int .i64 x, .int .i64 y], .agg #[.int .i64 u, .int .i64 v]] (.agg #[.int .i64 (hold x + hold u), .int .i64 (hold y + hold v)]), .val (.agg #[.int .i64 x, .int .i64 y]), .val (.agg #[.int .i64 u, .int .i64 v]), .call 12 #[.agg #[.int .i64 x, .int .i64 y], .agg #[.int .i64 u, .int .i64 v]] (.agg #[.int .i64 (hold x + hold u), .int .i64 (hold y + hold v)]), .val (.bool true), .val (.bool true), .val (.bool true), .val (.agg #[.int .i64 x, .int .i64 y]), .val (.agg #[.int .i64 u, .int .i64 v]), .call 13 #[.agg #[.int .i64 x, .int .i64 y], .agg #[.int .i64 u, .int .i64 v]] (.agg #[.int .i64 (hold x - hold u), .int .i64 (hold y - hold v)]), .val (.agg #[.int .i64 x, .int .i64 y]), .val (.agg #[.int .i64 u, .int .i64 v]), .call 14 #[.agg #[.int .i64 x, .int .i64 y], .agg #[.int .i64 u, .int .i64 v]] (.agg #[.int .i64 (hold x - hold u), .int .i64 (hold y - hold v)]), .val (.bool true), .val (.bool true), .val (.bool true), .val (.agg #[.int .i64 x, .int .i64 y]), .call 15 #[.agg #[.int .i64 x, .int .i64 y]] (.agg #[.int .i64 (-hold y), .int .i64 (hold x)]), .val (.agg #[.int .i64 x, .int .i64 y]), .call 16 #[.agg #[.int .i64 x, .int .i64 y]] (.agg #[.int .i64 (-hold y), .int .i64 (hold x)]), .val (.bool true), .val (.bool true), .val (.bool true), .val (.agg #[.int .i64 x, .int .i64 y]), .val (.agg #[.int .i64 u, .int .i64 v]), .call 17 #[.agg #[.int .i64 x, .int .i64 y], .agg #[.int .i64 u, .int .i64 v]] (.int .i64 (hold x * hold u + hold y * hold v)), .val (.agg #[.int .i64 x, .int .i64 y]), .val (.agg #[.int .i64 u, .int .i64 v]), .call 18 #[.agg #[.int .i64 x, .int .i64 y], .agg #[.int .i64 u, .int .i64 v]] (.int .i64 (hold x * hold u + hold y * hold v)), .val (.bool true), .val (.bool true), .val (.bool true), .val (.agg #[.int .i64 x, .int .i64 y]), .val (.agg #[.int .i64 u, .int .i64 v]), .call 19 #[.agg #[.int .i64 x, .int .i64 y], .agg #[.int .i64 u, .int .i64 v]] (.int .i64 (hold x * hold v - hold y * hold u)), .val (.agg #[.int .i64 x, .int .i64 y]), .val (.agg #[.int .i64 u, .int .i64 v]), .call 20 #[.agg #[.int .i64 x, .int .i64 y], .agg #[.int .i64 u, .int .i64 v]] (.int .i64 (hold x * hold v - hold y * hold u)), .val (.bool true), .val (.bool true), .val (.bool true), .val (.agg #[.int .i64 x, .int .i64 y]), .call 21 #[.agg #[.int .i64 x, .int .i64 y]] (.int .i64 r), .val (.agg #[.int .i64 x, .int .i64 y]), .call 22 #[.agg #[.int .i64 x, .int .i64 y]] (.int .i64 r), .val (.bool true), .val (.bool true), .val (.bool true), .val (.agg #[.int .i64 x, .int .i64 y]), .val (.agg #[.int .i64 u, .int .i64 v]), .call 23 #[.agg #[.int .i64 x, .int .i64 y], .agg #[.int .i64 u, .int .i64 v]] (.bool (lessB x y u v)), .val (.agg #[.int .i64 x, .int .i64 y]), .val (.agg #[.int .i64 u, .int .i64 v]), .call 24 #[.agg #[.int .i64 x, .int .i64 y], .agg #[.int .i64 u, .int .i64 v]] (.bool (lessB x y u v)), .val (.bool true), .val (.bool true), .val (.bool true), .call 25 #[] (.bool true), .val (.bool true), .val (.bool true)] (by kernel_rfl) (by kernel_rfl) rfl (by kernel_rfl) (by rintro w1 w2 ⟨h0, h1, h2, h3, h4, h5, h6, h7⟩ hb; exact ⟨bcs hb h0, bfs hb h0 h1, bcs hb h2, bfs hb h2 h3, bcs hb h4, bfs hb h4 h5, bcs hb h6, bfs hb h6 h7⟩) ⟨by first | with_reducible assumption | go_simp, by first | with_reducible assumption | go_simp, by first | with_reducible assumption | go_simp, by first | with_reducible assumption | go_simp, by first | with_reducible assumption | go_simp, by first | with_reducible assumption | go_simp, by first | with_reducible assumption | go_simp, by first | with_reducible assumption | go_simp, by repeat (first | with_reducible exact Below.refl _ _ | fail | with_reducible apply below_drewN | with_reducible apply Below.drew | (with_reducible refine Below.alloc ?_ (by first | (simp; done) | (simp; omega) | omega) _) | (with_reducible refine Below.setCell ?_ (by first | (simp; done) | (simp; omega) | omega) _)), by first | with_reducible assumption | (simp; done) | (simp; omega)⟩ ?_ ?_
  · rintro W ⟨k1_b2_0, g1_b2_0, k1_b2_1, g1_b2_1, k1_b3_0, g1_b3_0, k1_b3_1, g1_b3_1, B1, z1⟩; exact ⟨k1_b2_0, g1_b2_0, k1_b2_1, g1_b2_1, k1_b3_0, g1_b3_0, k1_b3_1, g1_b3_1⟩
  rintro w1 ⟨k1_b2_0, g1_b2_0, k1_b2_1, g1_b2_1, k1_b3_0, g1_b3_0, k1_b3_1, g1_b3_1, B1, z1⟩ gg
  simp only [List.take_succ_cons, List.take_zero, List.drop_succ_cons, List.drop_zero, List.cons_append, List.nil_append, List.append_nil]
  refine obe_val (by rfl) ?_ ?_
  · clear k1_b2_0 g1_b2_0 k1_b2_1 g1_b2_1 k1_b3_0 g1_b3_0 k1_b3_1 g1_b3_1 B1 z1; intro f hf; have u2 : f 2 = (.pointer (some ⟨w.heap.size, 0, none⟩)) := (by rw [← hf]; rfl); clear hf; rintro w' ⟨h0, h1, h2, h3, h4, h5, h6, h7⟩; go_simp; try exact IntWalk.i64_in _ (by omega)
  refine obe_call (by rfl) ?_ ?_ ?_
  · clear k1_b2_0 g1_b2_0 k1_b2_1 g1_b2_1 k1_b3_0 g1_b3_0 k1_b3_1 g1_b3_1 B1 z1; intro f hf; have u5 : f 5 = (.agg #[.int .i64 x, .int .i64 y]) := (by rw [← hf]; rfl); clear hf; intro w' _; simp only [execOp, resolve, invoke, rhoF_tmp, rhoF_func, rhoF_const, u5, List.map_toArray, List.map_cons, List.map_nil]; go_simp
  · clear k1_b2_0 g1_b2_0 k1_b2_1 g1_b2_1 k1_b3_0 g1_b3_0 k1_b3_1 g1_b3_1 B1 z1; rintro w' ⟨h0, h1, h2, h3, h4, h5, h6, h7⟩; exact vvalid_any x y _
  refine obe_val (by rfl) ?_ ?_
  · clear k1_b2_0 g1_b2_0 k1_b2_1 g1_b2_1 k1_b3_0 g1_b3_0 k1_b3_1 g1_b3_1 B1 z1; intro f hf; have u2 : f 2 = (.pointer (some ⟨w.heap.size, 0, none⟩)) := (by rw [← hf]; rfl); clear hf; rintro w' ⟨h0, h1, h2, h3, h4, h5, h6, h7⟩; go_simp; try exact IntWalk.i64_in _ (by omega)
  refine obe_call (by rfl) ?_ ?_ ?_
  · clear k1_b2_0 g1_b2_0 k1_b2_1 g1_b2_1 k1_b3_0 g1_b3_0 k1_b3_1 g1_b3_1 B1 z1; intro f hf; have u7 : f 7 = (.agg #[.int .i64 x, .int .i64 y]) := (by rw [← hf]; rfl); clear hf; intro w' _; simp only [execOp, resolve, invoke, rhoF_tmp, rhoF_func, rhoF_const, u7, List.map_toArray, List.map_cons, List.map_nil]; go_simp
  · clear k1_b2_0 g1_b2_0 k1_b2_1 g1_b2_1 k1_b3_0 g1_b3_0 k1_b3_1 g1_b3_1 B1 z1; rintro w' ⟨h0, h1, h2, h3, h4, h5, h6, h7⟩; exact rvalid_any x y _
  refine obe_val (by rfl) ?_ ?_
  · clear k1_b2_0 g1_b2_0 k1_b2_1 g1_b2_1 k1_b3_0 g1_b3_0 k1_b3_1 g1_b3_1 B1 z1; intro f hf; have u6 : f 6 = (.bool (vB x y)) := (by rw [← hf]; rfl); have u8 : f 8 = (.bool (vB x y)) := (by rw [← hf]; rfl); clear hf; rintro w' ⟨h0, h1, h2, h3, h4, h5, h6, h7⟩; go_simp; try exact IntWalk.i64_in _ (by omega)
  refine obe_val (by rfl) ?_ ?_
  · clear k1_b2_0 g1_b2_0 k1_b2_1 g1_b2_1 k1_b3_0 g1_b3_0 k1_b3_1 g1_b3_1 B1 z1; intro f hf; have u9 : f 9 = (.bool true) := (by rw [← hf]; rfl); clear hf; rintro w' ⟨h0, h1, h2, h3, h4, h5, h6, h7⟩; go_simp; try exact IntWalk.i64_in _ (by omega)
  refine obe_val (by rfl) ?_ ?_
  · clear k1_b2_0 g1_b2_0 k1_b2_1 g1_b2_1 k1_b3_0 g1_b3_0 k1_b3_1 g1_b3_1 B1 z1; intro f hf; have u2 : f 2 = (.pointer (some ⟨w.heap.size, 0, none⟩)) := (by rw [← hf]; rfl); clear hf; rintro w' ⟨h0, h1, h2, h3, h4, h5, h6, h7⟩; go_simp; try exact IntWalk.i64_in _ (by omega)
  refine obe_val (by rfl) ?_ ?_
  · clear k1_b2_0 g1_b2_0 k1_b2_1 g1_b2_1 k1_b3_0 g1_b3_0 k1_b3_1 g1_b3_1 B1 z1; intro f hf; have u3 : f 3 = (.pointer (some ⟨w.heap.size + 1, 0, none⟩)) := (by rw [← hf]; rfl); clear hf; rintro w' ⟨h0, h1, h2, h3, h4, h5, h6, h7⟩; go_simp; try exact IntWalk.i64_in _ (by omega)
  refine obe_call (by rfl) ?_ ?_ ?_
  · clear k1_b2_0 g1_b2_0 k1_b2_1 g1_b2_1 k1_b3_0 g1_b3_0 k1_b3_1 g1_b3_1 B1 z1; intro f hf; have u11 : f 11 = (.agg #[.int .i64 x, .int .i64 y]) := (by rw [← hf]; rfl); have u12 : f 12 = (.agg #[.int .i64 u, .int .i64 v]) := (by rw [← hf]; rfl); clear hf; intro w' _; simp only [execOp, resolve, invoke, rhoF_tmp, rhoF_func, rhoF_const, u11, u12, List.map_toArray, List.map_cons, List.map_nil]; go_simp
  · clear k1_b2_0 g1_b2_0 k1_b2_1 g1_b2_1 k1_b3_0 g1_b3_0 k1_b3_1 g1_b3_1 B1 z1; rintro w' ⟨h0, h1, h2, h3, h4, h5, h6, h7⟩; exact vadd_any x y u v _
  refine obe_val (by rfl) ?_ ?_
  · clear k1_b2_0 g1_b2_0 k1_b2_1 g1_b2_1 k1_b3_0 g1_b3_0 k1_b3_1 g1_b3_1 B1 z1; intro f hf; have u2 : f 2 = (.pointer (some ⟨w.heap.size, 0, none⟩)) := (by rw [← hf]; rfl); clear hf; rintro w' ⟨h0, h1, h2, h3, h4, h5, h6, h7⟩; go_simp; try exact IntWalk.i64_in _ (by omega)
  refine obe_val (by rfl) ?_ ?_
  · clear k1_b2_0 g1_b2_0 k1_b2_1 g1_b2_1 k1_b3_0 g1_b3_0 k1_b3_1 g1_b3_1 B1 z1; intro f hf; have u3 : f 3 = (.pointer (some ⟨w.heap.size + 1, 0, none⟩)) := (by rw [← hf]; rfl); clear hf; rintro w' ⟨h0, h1, h2, h3, h4, h5, h6, h7⟩; go_simp; try exact IntWalk.i64_in _ (by omega)
  refine obe_call (by rfl) ?_ ?_ ?_
  · clear k1_b2_0 g1_b2_0 k1_b2_1 g1_b2_1 k1_b3_0 g1_b3_0 k1_b3_1 g1_b3_1 B1 z1; intro f hf; have u14 : f 14 = (.agg #[.int .i64 x, .int .i64 y]) := (by rw [← hf]; rfl); have u15 : f 15 = (.agg #[.int .i64 u, .int .i64 v]) := (by rw [← hf]; rfl); clear hf; intro w' _; simp only [execOp, resolve, invoke, rhoF_tmp, rhoF_func, rhoF_const, u14, u15, List.map_toArray, List.map_cons, List.map_nil]; go_simp
  · clear k1_b2_0 g1_b2_0 k1_b2_1 g1_b2_1 k1_b3_0 g1_b3_0 k1_b3_1 g1_b3_1 B1 z1; rintro w' ⟨h0, h1, h2, h3, h4, h5, h6, h7⟩; exact radd_any x y u v _
  refine obe_val (by rfl) ?_ ?_
  · clear k1_b2_0 g1_b2_0 k1_b2_1 g1_b2_1 k1_b3_0 g1_b3_0 k1_b3_1 g1_b3_1 B1 z1; intro f hf; have u13 : f 13 = (.agg #[.int .i64 (hold x + hold u), .int .i64 (hold y + hold v)]) := (by rw [← hf]; rfl); have u16 : f 16 = (.agg #[.int .i64 (hold x + hold u), .int .i64 (hold y + hold v)]) := (by rw [← hf]; rfl); clear hf; rintro w' ⟨h0, h1, h2, h3, h4, h5, h6, h7⟩; go_simp; try exact IntWalk.i64_in _ (by omega)
  refine obe_val (by rfl) ?_ ?_
  · clear k1_b2_0 g1_b2_0 k1_b2_1 g1_b2_1 k1_b3_0 g1_b3_0 k1_b3_1 g1_b3_1 B1 z1; intro f hf; have u10 : f 10 = (.bool true) := (by rw [← hf]; rfl); have u17 : f 17 = (.bool true) := (by rw [← hf]; rfl); clear hf; rintro w' ⟨h0, h1, h2, h3, h4, h5, h6, h7⟩; go_simp; try exact IntWalk.i64_in _ (by omega)
  refine obe_val (by rfl) ?_ ?_
  · clear k1_b2_0 g1_b2_0 k1_b2_1 g1_b2_1 k1_b3_0 g1_b3_0 k1_b3_1 g1_b3_1 B1 z1; intro f hf; have u18 : f 18 = (.bool true) := (by rw [← hf]; rfl); clear hf; rintro w' ⟨h0, h1, h2, h3, h4, h5, h6, h7⟩; go_simp; try exact IntWalk.i64_in _ (by omega)
  refine obe_val (by rfl) ?_ ?_
  · clear k1_b2_0 g1_b2_0 k1_b2_1 g1_b2_1 k1_b3_0 g1_b3_0 k1_b3_1 g1_b3_1 B1 z1; intro f hf; have u2 : f 2 = (.pointer (some ⟨w.heap.size, 0, none⟩)) := (by rw [← hf]; rfl); clear hf; rintro w' ⟨h0, h1, h2, h3, h4, h5, h6, h7⟩; go_simp; try exact IntWalk.i64_in _ (by omega)
  refine obe_val (by rfl) ?_ ?_
  · clear k1_b2_0 g1_b2_0 k1_b2_1 g1_b2_1 k1_b3_0 g1_b3_0 k1_b3_1 g1_b3_1 B1 z1; intro f hf; have u3 : f 3 = (.pointer (some ⟨w.heap.size + 1, 0, none⟩)) := (by rw [← hf]; rfl); clear hf; rintro w' ⟨h0, h1, h2, h3, h4, h5, h6, h7⟩; go_simp; try exact IntWalk.i64_in _ (by omega)
  refine obe_call (by rfl) ?_ ?_ ?_
  · clear k1_b2_0 g1_b2_0 k1_b2_1 g1_b2_1 k1_b3_0 g1_b3_0 k1_b3_1 g1_b3_1 B1 z1; intro f hf; have u20 : f 20 = (.agg #[.int .i64 x, .int .i64 y]) := (by rw [← hf]; rfl); have u21 : f 21 = (.agg #[.int .i64 u, .int .i64 v]) := (by rw [← hf]; rfl); clear hf; intro w' _; simp only [execOp, resolve, invoke, rhoF_tmp, rhoF_func, rhoF_const, u20, u21, List.map_toArray, List.map_cons, List.map_nil]; go_simp
  · clear k1_b2_0 g1_b2_0 k1_b2_1 g1_b2_1 k1_b3_0 g1_b3_0 k1_b3_1 g1_b3_1 B1 z1; rintro w' ⟨h0, h1, h2, h3, h4, h5, h6, h7⟩; exact vsub_any x y u v _
  refine obe_val (by rfl) ?_ ?_
  · clear k1_b2_0 g1_b2_0 k1_b2_1 g1_b2_1 k1_b3_0 g1_b3_0 k1_b3_1 g1_b3_1 B1 z1; intro f hf; have u2 : f 2 = (.pointer (some ⟨w.heap.size, 0, none⟩)) := (by rw [← hf]; rfl); clear hf; rintro w' ⟨h0, h1, h2, h3, h4, h5, h6, h7⟩; go_simp; try exact IntWalk.i64_in _ (by omega)
  refine obe_val (by rfl) ?_ ?_
  · clear k1_b2_0 g1_b2_0 k1_b2_1 g1_b2_1 k1_b3_0 g1_b3_0 k1_b3_1 g1_b3_1 B1 z1; intro f hf; have u3 : f 3 = (.pointer (some ⟨w.heap.size + 1, 0, none⟩)) := (by rw [← hf]; rfl); clear hf; rintro w' ⟨h0, h1, h2, h3, h4, h5, h6, h7⟩; go_simp; try exact IntWalk.i64_in _ (by omega)
  refine obe_call (by rfl) ?_ ?_ ?_
  · clear k1_b2_0 g1_b2_0 k1_b2_1 g1_b2_1 k1_b3_0 g1_b3_0 k1_b3_1 g1_b3_1 B1 z1; intro f hf; have u23 : f 23 = (.agg #[.int .i64 x, .int .i64 y]) := (by rw [← hf]; rfl); have u24 : f 24 = (.agg #[.int .i64 u, .int .i64 v]) := (by rw [← hf]; rfl); clear hf; intro w' _; simp only [execOp, resolve, invoke, rhoF_tmp, rhoF_func, rhoF_const, u23, u24, List.map_toArray, List.map_cons, List.map_nil]; go_simp
  · clear k1_b2_0 g1_b2_0 k1_b2_1 g1_b2_1 k1_b3_0 g1_b3_0 k1_b3_1 g1_b3_1 B1 z1; rintro w' ⟨h0, h1, h2, h3, h4, h5, h6, h7⟩; exact rsub_any x y u v _
  refine obe_val (by rfl) ?_ ?_
  · clear k1_b2_0 g1_b2_0 k1_b2_1 g1_b2_1 k1_b3_0 g1_b3_0 k1_b3_1 g1_b3_1 B1 z1; intro f hf; have u22 : f 22 = (.agg #[.int .i64 (hold x - hold u), .int .i64 (hold y - hold v)]) := (by rw [← hf]; rfl); have u25 : f 25 = (.agg #[.int .i64 (hold x - hold u), .int .i64 (hold y - hold v)]) := (by rw [← hf]; rfl); clear hf; rintro w' ⟨h0, h1, h2, h3, h4, h5, h6, h7⟩; go_simp; try exact IntWalk.i64_in _ (by omega)
  refine obe_val (by rfl) ?_ ?_
  · clear k1_b2_0 g1_b2_0 k1_b2_1 g1_b2_1 k1_b3_0 g1_b3_0 k1_b3_1 g1_b3_1 B1 z1; intro f hf; have u19 : f 19 = (.bool true) := (by rw [← hf]; rfl); have u26 : f 26 = (.bool true) := (by rw [← hf]; rfl); clear hf; rintro w' ⟨h0, h1, h2, h3, h4, h5, h6, h7⟩; go_simp; try exact IntWalk.i64_in _ (by omega)
  refine obe_val (by rfl) ?_ ?_
  · clear k1_b2_0 g1_b2_0 k1_b2_1 g1_b2_1 k1_b3_0 g1_b3_0 k1_b3_1 g1_b3_1 B1 z1; intro f hf; have u27 : f 27 = (.bool true) := (by rw [← hf]; rfl); clear hf; rintro w' ⟨h0, h1, h2, h3, h4, h5, h6, h7⟩; go_simp; try exact IntWalk.i64_in _ (by omega)
  refine obe_val (by rfl) ?_ ?_
  · clear k1_b2_0 g1_b2_0 k1_b2_1 g1_b2_1 k1_b3_0 g1_b3_0 k1_b3_1 g1_b3_1 B1 z1; intro f hf; have u2 : f 2 = (.pointer (some ⟨w.heap.size, 0, none⟩)) := (by rw [← hf]; rfl); clear hf; rintro w' ⟨h0, h1, h2, h3, h4, h5, h6, h7⟩; go_simp; try exact IntWalk.i64_in _ (by omega)
  refine obe_call (by rfl) ?_ ?_ ?_
  · clear k1_b2_0 g1_b2_0 k1_b2_1 g1_b2_1 k1_b3_0 g1_b3_0 k1_b3_1 g1_b3_1 B1 z1; intro f hf; have u29 : f 29 = (.agg #[.int .i64 x, .int .i64 y]) := (by rw [← hf]; rfl); clear hf; intro w' _; simp only [execOp, resolve, invoke, rhoF_tmp, rhoF_func, rhoF_const, u29, List.map_toArray, List.map_cons, List.map_nil]; go_simp
  · clear k1_b2_0 g1_b2_0 k1_b2_1 g1_b2_1 k1_b3_0 g1_b3_0 k1_b3_1 g1_b3_1 B1 z1; rintro w' ⟨h0, h1, h2, h3, h4, h5, h6, h7⟩; exact vperp_any x y _
  refine obe_val (by rfl) ?_ ?_
  · clear k1_b2_0 g1_b2_0 k1_b2_1 g1_b2_1 k1_b3_0 g1_b3_0 k1_b3_1 g1_b3_1 B1 z1; intro f hf; have u2 : f 2 = (.pointer (some ⟨w.heap.size, 0, none⟩)) := (by rw [← hf]; rfl); clear hf; rintro w' ⟨h0, h1, h2, h3, h4, h5, h6, h7⟩; go_simp; try exact IntWalk.i64_in _ (by omega)
  refine obe_call (by rfl) ?_ ?_ ?_
  · clear k1_b2_0 g1_b2_0 k1_b2_1 g1_b2_1 k1_b3_0 g1_b3_0 k1_b3_1 g1_b3_1 B1 z1; intro f hf; have u31 : f 31 = (.agg #[.int .i64 x, .int .i64 y]) := (by rw [← hf]; rfl); clear hf; intro w' _; simp only [execOp, resolve, invoke, rhoF_tmp, rhoF_func, rhoF_const, u31, List.map_toArray, List.map_cons, List.map_nil]; go_simp
  · clear k1_b2_0 g1_b2_0 k1_b2_1 g1_b2_1 k1_b3_0 g1_b3_0 k1_b3_1 g1_b3_1 B1 z1; rintro w' ⟨h0, h1, h2, h3, h4, h5, h6, h7⟩; exact rperp_any x y _
  refine obe_val (by rfl) ?_ ?_
  · clear k1_b2_0 g1_b2_0 k1_b2_1 g1_b2_1 k1_b3_0 g1_b3_0 k1_b3_1 g1_b3_1 B1 z1; intro f hf; have u30 : f 30 = (.agg #[.int .i64 (-hold y), .int .i64 (hold x)]) := (by rw [← hf]; rfl); have u32 : f 32 = (.agg #[.int .i64 (-hold y), .int .i64 (hold x)]) := (by rw [← hf]; rfl); clear hf; rintro w' ⟨h0, h1, h2, h3, h4, h5, h6, h7⟩; go_simp; try exact IntWalk.i64_in _ (by omega)
  refine obe_val (by rfl) ?_ ?_
  · clear k1_b2_0 g1_b2_0 k1_b2_1 g1_b2_1 k1_b3_0 g1_b3_0 k1_b3_1 g1_b3_1 B1 z1; intro f hf; have u28 : f 28 = (.bool true) := (by rw [← hf]; rfl); have u33 : f 33 = (.bool true) := (by rw [← hf]; rfl); clear hf; rintro w' ⟨h0, h1, h2, h3, h4, h5, h6, h7⟩; go_simp; try exact IntWalk.i64_in _ (by omega)
  refine obe_val (by rfl) ?_ ?_
  · clear k1_b2_0 g1_b2_0 k1_b2_1 g1_b2_1 k1_b3_0 g1_b3_0 k1_b3_1 g1_b3_1 B1 z1; intro f hf; have u34 : f 34 = (.bool true) := (by rw [← hf]; rfl); clear hf; rintro w' ⟨h0, h1, h2, h3, h4, h5, h6, h7⟩; go_simp; try exact IntWalk.i64_in _ (by omega)
  refine obe_val (by rfl) ?_ ?_
  · clear k1_b2_0 g1_b2_0 k1_b2_1 g1_b2_1 k1_b3_0 g1_b3_0 k1_b3_1 g1_b3_1 B1 z1; intro f hf; have u2 : f 2 = (.pointer (some ⟨w.heap.size, 0, none⟩)) := (by rw [← hf]; rfl); clear hf; rintro w' ⟨h0, h1, h2, h3, h4, h5, h6, h7⟩; go_simp; try exact IntWalk.i64_in _ (by omega)
  refine obe_val (by rfl) ?_ ?_
  · clear k1_b2_0 g1_b2_0 k1_b2_1 g1_b2_1 k1_b3_0 g1_b3_0 k1_b3_1 g1_b3_1 B1 z1; intro f hf; have u3 : f 3 = (.pointer (some ⟨w.heap.size + 1, 0, none⟩)) := (by rw [← hf]; rfl); clear hf; rintro w' ⟨h0, h1, h2, h3, h4, h5, h6, h7⟩; go_simp; try exact IntWalk.i64_in _ (by omega)
  refine obe_call (by rfl) ?_ ?_ ?_
  · clear k1_b2_0 g1_b2_0 k1_b2_1 g1_b2_1 k1_b3_0 g1_b3_0 k1_b3_1 g1_b3_1 B1 z1; intro f hf; have u36 : f 36 = (.agg #[.int .i64 x, .int .i64 y]) := (by rw [← hf]; rfl); have u37 : f 37 = (.agg #[.int .i64 u, .int .i64 v]) := (by rw [← hf]; rfl); clear hf; intro w' _; simp only [execOp, resolve, invoke, rhoF_tmp, rhoF_func, rhoF_const, u36, u37, List.map_toArray, List.map_cons, List.map_nil]; go_simp
  · clear k1_b2_0 g1_b2_0 k1_b2_1 g1_b2_1 k1_b3_0 g1_b3_0 k1_b3_1 g1_b3_1 B1 z1; rintro w' ⟨h0, h1, h2, h3, h4, h5, h6, h7⟩; exact vdot_any x y u v _
  refine obe_val (by rfl) ?_ ?_
  · clear k1_b2_0 g1_b2_0 k1_b2_1 g1_b2_1 k1_b3_0 g1_b3_0 k1_b3_1 g1_b3_1 B1 z1; intro f hf; have u2 : f 2 = (.pointer (some ⟨w.heap.size, 0, none⟩)) := (by rw [← hf]; rfl); clear hf; rintro w' ⟨h0, h1, h2, h3, h4, h5, h6, h7⟩; go_simp; try exact IntWalk.i64_in _ (by omega)
  refine obe_val (by rfl) ?_ ?_
  · clear k1_b2_0 g1_b2_0 k1_b2_1 g1_b2_1 k1_b3_0 g1_b3_0 k1_b3_1 g1_b3_1 B1 z1; intro f hf; have u3 : f 3 = (.pointer (some ⟨w.heap.size + 1, 0, none⟩)) := (by rw [← hf]; rfl); clear hf; rintro w' ⟨h0, h1, h2, h3, h4, h5, h6, h7⟩; go_simp; try exact IntWalk.i64_in _ (by omega)
  refine obe_call (by rfl) ?_ ?_ ?_
  · clear k1_b2_0 g1_b2_0 k1_b2_1 g1_b2_1 k1_b3_0 g1_b3_0 k1_b3_1 g1_b3_1 B1 z1; intro f hf; have u39 : f 39 = (.agg #[.int .i64 x, .int .i64 y]) := (by rw [← hf]; rfl); have u40 : f 40 = (.agg #[.int .i64 u, .int .i64 v]) := (by rw [← hf]; rfl); clear hf; intro w' _; simp only [execOp, resolve, invoke, rhoF_tmp, rhoF_func, rhoF_const, u39, u40, List.map_toArray, List.map_cons, List.map_nil]; go_simp
  · clear k1_b2_0 g1_b2_0 k1_b2_1 g1_b2_1 k1_b3_0 g1_b3_0 k1_b3_1 g1_b3_1 B1 z1; rintro w' ⟨h0, h1, h2, h3, h4, h5, h6, h7⟩; exact rdot_any x y u v _
  refine obe_val (by rfl) ?_ ?_
  · clear k1_b2_0 g1_b2_0 k1_b2_1 g1_b2_1 k1_b3_0 g1_b3_0 k1_b3_1 g1_b3_1 B1 z1; intro f hf; have u38 : f 38 = (.int .i64 (hold x * hold u + hold y * hold v)) := (by rw [← hf]; rfl); have u41 : f 41 = (.int .i64 (hold x * hold u + hold y * hold v)) := (by rw [← hf]; rfl); clear hf; rintro w' ⟨h0, h1, h2, h3, h4, h5, h6, h7⟩; go_simp; try exact IntWalk.i64_in _ (by omega)
  refine obe_val (by rfl) ?_ ?_
  · clear k1_b2_0 g1_b2_0 k1_b2_1 g1_b2_1 k1_b3_0 g1_b3_0 k1_b3_1 g1_b3_1 B1 z1; intro f hf; have u35 : f 35 = (.bool true) := (by rw [← hf]; rfl); have u42 : f 42 = (.bool true) := (by rw [← hf]; rfl); clear hf; rintro w' ⟨h0, h1, h2, h3, h4, h5, h6, h7⟩; go_simp; try exact IntWalk.i64_in _ (by omega)
  refine obe_val (by rfl) ?_ ?_
  · clear k1_b2_0 g1_b2_0 k1_b2_1 g1_b2_1 k1_b3_0 g1_b3_0 k1_b3_1 g1_b3_1 B1 z1; intro f hf; have u43 : f 43 = (.bool true) := (by rw [← hf]; rfl); clear hf; rintro w' ⟨h0, h1, h2, h3, h4, h5, h6, h7⟩; go_simp; try exact IntWalk.i64_in _ (by omega)
  refine obe_val (by rfl) ?_ ?_
  · clear k1_b2_0 g1_b2_0 k1_b2_1 g1_b2_1 k1_b3_0 g1_b3_0 k1_b3_1 g1_b3_1 B1 z1; intro f hf; have u2 : f 2 = (.pointer (some ⟨w.heap.size, 0, none⟩)) := (by rw [← hf]; rfl); clear hf; rintro w' ⟨h0, h1, h2, h3, h4, h5, h6, h7⟩; go_simp; try exact IntWalk.i64_in _ (by omega)
  refine obe_val (by rfl) ?_ ?_
  · clear k1_b2_0 g1_b2_0 k1_b2_1 g1_b2_1 k1_b3_0 g1_b3_0 k1_b3_1 g1_b3_1 B1 z1; intro f hf; have u3 : f 3 = (.pointer (some ⟨w.heap.size + 1, 0, none⟩)) := (by rw [← hf]; rfl); clear hf; rintro w' ⟨h0, h1, h2, h3, h4, h5, h6, h7⟩; go_simp; try exact IntWalk.i64_in _ (by omega)
  refine obe_call (by rfl) ?_ ?_ ?_
  · clear k1_b2_0 g1_b2_0 k1_b2_1 g1_b2_1 k1_b3_0 g1_b3_0 k1_b3_1 g1_b3_1 B1 z1; intro f hf; have u45 : f 45 = (.agg #[.int .i64 x, .int .i64 y]) := (by rw [← hf]; rfl); have u46 : f 46 = (.agg #[.int .i64 u, .int .i64 v]) := (by rw [← hf]; rfl); clear hf; intro w' _; simp only [execOp, resolve, invoke, rhoF_tmp, rhoF_func, rhoF_const, u45, u46, List.map_toArray, List.map_cons, List.map_nil]; go_simp
  · clear k1_b2_0 g1_b2_0 k1_b2_1 g1_b2_1 k1_b3_0 g1_b3_0 k1_b3_1 g1_b3_1 B1 z1; rintro w' ⟨h0, h1, h2, h3, h4, h5, h6, h7⟩; exact vcross_any x y u v _
  refine obe_val (by rfl) ?_ ?_
  · clear k1_b2_0 g1_b2_0 k1_b2_1 g1_b2_1 k1_b3_0 g1_b3_0 k1_b3_1 g1_b3_1 B1 z1; intro f hf; have u2 : f 2 = (.pointer (some ⟨w.heap.size, 0, none⟩)) := (by rw [← hf]; rfl); clear hf; rintro w' ⟨h0, h1, h2, h3, h4, h5, h6, h7⟩; go_simp; try exact IntWalk.i64_in _ (by omega)
  refine obe_val (by rfl) ?_ ?_
  · clear k1_b2_0 g1_b2_0 k1_b2_1 g1_b2_1 k1_b3_0 g1_b3_0 k1_b3_1 g1_b3_1 B1 z1; intro f hf; have u3 : f 3 = (.pointer (some ⟨w.heap.size + 1, 0, none⟩)) := (by rw [← hf]; rfl); clear hf; rintro w' ⟨h0, h1, h2, h3, h4, h5, h6, h7⟩; go_simp; try exact IntWalk.i64_in _ (by omega)
  refine obe_call (by rfl) ?_ ?_ ?_
  · clear k1_b2_0 g1_b2_0 k1_b2_1 g1_b2_1 k1_b3_0 g1_b3_0 k1_b3_1 g1_b3_1 B1 z1; intro f hf; have u48 : f 48 = (.agg #[.int .i64 x, .int .i64 y]) := (by rw [← hf]; rfl); have u49 : f 49 = (.agg #[.int .i64 u, .int .i64 v]) := (by rw [← hf]; rfl); clear hf; intro w' _; simp only [execOp, resolve, invoke, rhoF_tmp, rhoF_func, rhoF_const, u48, u49, List.map_toArray, List.map_cons, List.map_nil]; go_simp
  · clear k1_b2_0 g1_b2_0 k1_b2_1 g1_b2_1 k1_b3_0 g1_b3_0 k1_b3_1 g1_b3_1 B1 z1; rintro w' ⟨h0, h1, h2, h3, h4, h5, h6, h7⟩; exact rcross_any x y u v _
  refine obe_val (by rfl) ?_ ?_
  · clear k1_b2_0 g1_b2_0 k1_b2_1 g1_b2_1 k1_b3_0 g1_b3_0 k1_b3_1 g1_b3_1 B1 z1; intro f hf; have u47 : f 47 = (.int .i64 (hold x * hold v - hold y * hold u)) := (by rw [← hf]; rfl); have u50 : f 50 = (.int .i64 (hold x * hold v - hold y * hold u)) := (by rw [← hf]; rfl); clear hf; rintro w' ⟨h0, h1, h2, h3, h4, h5, h6, h7⟩; go_simp; try exact IntWalk.i64_in _ (by omega)
  refine obe_val (by rfl) ?_ ?_
  · clear k1_b2_0 g1_b2_0 k1_b2_1 g1_b2_1 k1_b3_0 g1_b3_0 k1_b3_1 g1_b3_1 B1 z1; intro f hf; have u44 : f 44 = (.bool true) := (by rw [← hf]; rfl); have u51 : f 51 = (.bool true) := (by rw [← hf]; rfl); clear hf; rintro w' ⟨h0, h1, h2, h3, h4, h5, h6, h7⟩; go_simp; try exact IntWalk.i64_in _ (by omega)
  refine obe_val (by rfl) ?_ ?_
  · clear k1_b2_0 g1_b2_0 k1_b2_1 g1_b2_1 k1_b3_0 g1_b3_0 k1_b3_1 g1_b3_1 B1 z1; intro f hf; have u52 : f 52 = (.bool true) := (by rw [← hf]; rfl); clear hf; rintro w' ⟨h0, h1, h2, h3, h4, h5, h6, h7⟩; go_simp; try exact IntWalk.i64_in _ (by omega)
  refine obe_val (by rfl) ?_ ?_
  · clear k1_b2_0 g1_b2_0 k1_b2_1 g1_b2_1 k1_b3_0 g1_b3_0 k1_b3_1 g1_b3_1 B1 z1; intro f hf; have u2 : f 2 = (.pointer (some ⟨w.heap.size, 0, none⟩)) := (by rw [← hf]; rfl); clear hf; rintro w' ⟨h0, h1, h2, h3, h4, h5, h6, h7⟩; go_simp; try exact IntWalk.i64_in _ (by omega)
  refine obe_call (by rfl) ?_ ?_ ?_
  · clear k1_b2_0 g1_b2_0 k1_b2_1 g1_b2_1 k1_b3_0 g1_b3_0 k1_b3_1 g1_b3_1 B1 z1; intro f hf; have u54 : f 54 = (.agg #[.int .i64 x, .int .i64 y]) := (by rw [← hf]; rfl); clear hf; intro w' _; simp only [execOp, resolve, invoke, rhoF_tmp, rhoF_func, rhoF_const, u54, List.map_toArray, List.map_cons, List.map_nil]; go_simp
  · clear k1_b2_0 g1_b2_0 k1_b2_1 g1_b2_1 k1_b3_0 g1_b3_0 k1_b3_1 g1_b3_1 B1 z1; rintro w' ⟨h0, h1, h2, h3, h4, h5, h6, h7⟩; exact vlen_any x y r r0 hl1.out hl2.out r1 _
  refine obe_val (by rfl) ?_ ?_
  · clear k1_b2_0 g1_b2_0 k1_b2_1 g1_b2_1 k1_b3_0 g1_b3_0 k1_b3_1 g1_b3_1 B1 z1; intro f hf; have u2 : f 2 = (.pointer (some ⟨w.heap.size, 0, none⟩)) := (by rw [← hf]; rfl); clear hf; rintro w' ⟨h0, h1, h2, h3, h4, h5, h6, h7⟩; go_simp; try exact IntWalk.i64_in _ (by omega)
  refine obe_call (by rfl) ?_ ?_ ?_
  · clear k1_b2_0 g1_b2_0 k1_b2_1 g1_b2_1 k1_b3_0 g1_b3_0 k1_b3_1 g1_b3_1 B1 z1; intro f hf; have u56 : f 56 = (.agg #[.int .i64 x, .int .i64 y]) := (by rw [← hf]; rfl); clear hf; intro w' _; simp only [execOp, resolve, invoke, rhoF_tmp, rhoF_func, rhoF_const, u56, List.map_toArray, List.map_cons, List.map_nil]; go_simp
  · clear k1_b2_0 g1_b2_0 k1_b2_1 g1_b2_1 k1_b3_0 g1_b3_0 k1_b3_1 g1_b3_1 B1 z1; rintro w' ⟨h0, h1, h2, h3, h4, h5, h6, h7⟩; exact rlen_any x y r r0 hl1.out hl2.out r1 _
  refine obe_val (by rfl) ?_ ?_
  · clear k1_b2_0 g1_b2_0 k1_b2_1 g1_b2_1 k1_b3_0 g1_b3_0 k1_b3_1 g1_b3_1 B1 z1; intro f hf; have u55 : f 55 = (.int .i64 r) := (by rw [← hf]; rfl); have u57 : f 57 = (.int .i64 r) := (by rw [← hf]; rfl); clear hf; rintro w' ⟨h0, h1, h2, h3, h4, h5, h6, h7⟩; go_simp; try exact IntWalk.i64_in _ (by omega)
  refine obe_val (by rfl) ?_ ?_
  · clear k1_b2_0 g1_b2_0 k1_b2_1 g1_b2_1 k1_b3_0 g1_b3_0 k1_b3_1 g1_b3_1 B1 z1; intro f hf; have u53 : f 53 = (.bool true) := (by rw [← hf]; rfl); have u58 : f 58 = (.bool true) := (by rw [← hf]; rfl); clear hf; rintro w' ⟨h0, h1, h2, h3, h4, h5, h6, h7⟩; go_simp; try exact IntWalk.i64_in _ (by omega)
  refine obe_val (by rfl) ?_ ?_
  · clear k1_b2_0 g1_b2_0 k1_b2_1 g1_b2_1 k1_b3_0 g1_b3_0 k1_b3_1 g1_b3_1 B1 z1; intro f hf; have u59 : f 59 = (.bool true) := (by rw [← hf]; rfl); clear hf; rintro w' ⟨h0, h1, h2, h3, h4, h5, h6, h7⟩; go_simp; try exact IntWalk.i64_in _ (by omega)
  refine obe_val (by rfl) ?_ ?_
  · clear k1_b2_0 g1_b2_0 k1_b2_1 g1_b2_1 k1_b3_0 g1_b3_0 k1_b3_1 g1_b3_1 B1 z1; intro f hf; have u2 : f 2 = (.pointer (some ⟨w.heap.size, 0, none⟩)) := (by rw [← hf]; rfl); clear hf; rintro w' ⟨h0, h1, h2, h3, h4, h5, h6, h7⟩; go_simp; try exact IntWalk.i64_in _ (by omega)
  refine obe_val (by rfl) ?_ ?_
  · clear k1_b2_0 g1_b2_0 k1_b2_1 g1_b2_1 k1_b3_0 g1_b3_0 k1_b3_1 g1_b3_1 B1 z1; intro f hf; have u3 : f 3 = (.pointer (some ⟨w.heap.size + 1, 0, none⟩)) := (by rw [← hf]; rfl); clear hf; rintro w' ⟨h0, h1, h2, h3, h4, h5, h6, h7⟩; go_simp; try exact IntWalk.i64_in _ (by omega)
  refine obe_call (by rfl) ?_ ?_ ?_
  · clear k1_b2_0 g1_b2_0 k1_b2_1 g1_b2_1 k1_b3_0 g1_b3_0 k1_b3_1 g1_b3_1 B1 z1; intro f hf; have u61 : f 61 = (.agg #[.int .i64 x, .int .i64 y]) := (by rw [← hf]; rfl); have u62 : f 62 = (.agg #[.int .i64 u, .int .i64 v]) := (by rw [← hf]; rfl); clear hf; intro w' _; simp only [execOp, resolve, invoke, rhoF_tmp, rhoF_func, rhoF_const, u61, u62, List.map_toArray, List.map_cons, List.map_nil]; go_simp
  · clear k1_b2_0 g1_b2_0 k1_b2_1 g1_b2_1 k1_b3_0 g1_b3_0 k1_b3_1 g1_b3_1 B1 z1; rintro w' ⟨h0, h1, h2, h3, h4, h5, h6, h7⟩; exact vless_any x y u v _
  refine obe_val (by rfl) ?_ ?_
  · clear k1_b2_0 g1_b2_0 k1_b2_1 g1_b2_1 k1_b3_0 g1_b3_0 k1_b3_1 g1_b3_1 B1 z1; intro f hf; have u2 : f 2 = (.pointer (some ⟨w.heap.size, 0, none⟩)) := (by rw [← hf]; rfl); clear hf; rintro w' ⟨h0, h1, h2, h3, h4, h5, h6, h7⟩; go_simp; try exact IntWalk.i64_in _ (by omega)
  refine obe_val (by rfl) ?_ ?_
  · clear k1_b2_0 g1_b2_0 k1_b2_1 g1_b2_1 k1_b3_0 g1_b3_0 k1_b3_1 g1_b3_1 B1 z1; intro f hf; have u3 : f 3 = (.pointer (some ⟨w.heap.size + 1, 0, none⟩)) := (by rw [← hf]; rfl); clear hf; rintro w' ⟨h0, h1, h2, h3, h4, h5, h6, h7⟩; go_simp; try exact IntWalk.i64_in _ (by omega)
  refine obe_call (by rfl) ?_ ?_ ?_
  · clear k1_b2_0 g1_b2_0 k1_b2_1 g1_b2_1 k1_b3_0 g1_b3_0 k1_b3_1 g1_b3_1 B1 z1; intro f hf; have u64 : f 64 = (.agg #[.int .i64 x, .int .i64 y]) := (by rw [← hf]; rfl); have u65 : f 65 = (.agg #[.int .i64 u, .int .i64 v]) := (by rw [← hf]; rfl); clear hf; intro w' _; simp only [execOp, resolve, invoke, rhoF_tmp, rhoF_func, rhoF_const, u64, u65, List.map_toArray, List.map_cons, List.map_nil]; go_simp
  · clear k1_b2_0 g1_b2_0 k1_b2_1 g1_b2_1 k1_b3_0 g1_b3_0 k1_b3_1 g1_b3_1 B1 z1; rintro w' ⟨h0, h1, h2, h3, h4, h5, h6, h7⟩; exact rless_any x y u v _
  refine obe_val (by rfl) ?_ ?_
  · clear k1_b2_0 g1_b2_0 k1_b2_1 g1_b2_1 k1_b3_0 g1_b3_0 k1_b3_1 g1_b3_1 B1 z1; intro f hf; have u63 : f 63 = (.bool (lessB x y u v)) := (by rw [← hf]; rfl); have u66 : f 66 = (.bool (lessB x y u v)) := (by rw [← hf]; rfl); clear hf; rintro w' ⟨h0, h1, h2, h3, h4, h5, h6, h7⟩; go_simp; try exact IntWalk.i64_in _ (by omega)
  refine obe_val (by rfl) ?_ ?_
  · clear k1_b2_0 g1_b2_0 k1_b2_1 g1_b2_1 k1_b3_0 g1_b3_0 k1_b3_1 g1_b3_1 B1 z1; intro f hf; have u60 : f 60 = (.bool true) := (by rw [← hf]; rfl); have u67 : f 67 = (.bool true) := (by rw [← hf]; rfl); clear hf; rintro w' ⟨h0, h1, h2, h3, h4, h5, h6, h7⟩; go_simp; try exact IntWalk.i64_in _ (by omega)
  refine obe_val (by rfl) ?_ ?_
  · clear k1_b2_0 g1_b2_0 k1_b2_1 g1_b2_1 k1_b3_0 g1_b3_0 k1_b3_1 g1_b3_1 B1 z1; intro f hf; have u68 : f 68 = (.bool true) := (by rw [← hf]; rfl); clear hf; rintro w' ⟨h0, h1, h2, h3, h4, h5, h6, h7⟩; go_simp; try exact IntWalk.i64_in _ (by omega)
  refine obe_call (by rfl) ?_ ?_ ?_
  · clear k1_b2_0 g1_b2_0 k1_b2_1 g1_b2_1 k1_b3_0 g1_b3_0 k1_b3_1 g1_b3_1 B1 z1; intro f hf; clear hf; intro w' _; simp only [execOp, resolve, invoke, rhoF_tmp, rhoF_func, rhoF_const, List.map_toArray, List.map_cons, List.map_nil]; go_simp
  · clear k1_b2_0 g1_b2_0 k1_b2_1 g1_b2_1 k1_b3_0 g1_b3_0 k1_b3_1 g1_b3_1 B1 z1; rintro w' ⟨h0, h1, h2, h3, h4, h5, h6, h7⟩; exact example_any _
  refine obe_val (by rfl) ?_ ?_
  · clear k1_b2_0 g1_b2_0 k1_b2_1 g1_b2_1 k1_b3_0 g1_b3_0 k1_b3_1 g1_b3_1 B1 z1; intro f hf; have u69 : f 69 = (.bool true) := (by rw [← hf]; rfl); have u70 : f 70 = (.bool true) := (by rw [← hf]; rfl); clear hf; rintro w' ⟨h0, h1, h2, h3, h4, h5, h6, h7⟩; go_simp; try exact IntWalk.i64_in _ (by omega)
  refine obe_val (by rfl) ?_ ?_
  · clear k1_b2_0 g1_b2_0 k1_b2_1 g1_b2_1 k1_b3_0 g1_b3_0 k1_b3_1 g1_b3_1 B1 z1; intro f hf; have u71 : f 71 = (.bool true) := (by rw [← hf]; rfl); clear hf; rintro w' ⟨h0, h1, h2, h3, h4, h5, h6, h7⟩; go_simp; try exact IntWalk.i64_in _ (by omega)
  refine obe_nil ?_
  rintro w2 ⟨h0, h1, h2, h3, h4, h5, h6, h7⟩ hb2 hF
  (try simp only [List.nil_append, List.append_nil, List.cons_append] at hF)
  simp only [puts, putD, Act.put, List.setIfInBounds_toArray, List.set_cons_zero, List.set_cons_succ]
  clear hF
  have k2_b2_0 := bcs hb2 k1_b2_0
  have g2_b2_0 := bfs hb2 k1_b2_0 g1_b2_0
  have k2_b2_1 := bcs hb2 k1_b2_1
  have g2_b2_1 := bfs hb2 k1_b2_1 g1_b2_1
  have k2_b3_0 := bcs hb2 k1_b3_0
  have g2_b3_0 := bfs hb2 k1_b3_0 g1_b3_0
  have k2_b3_1 := bcs hb2 k1_b3_1
  have g2_b3_1 := bfs hb2 k1_b3_1 g1_b3_1
  clear h0 h1 h2 h3 h4 h5 h6 h7
  have B2 := bel_step B1 hb2
  have z2 := Nat.le_trans z1 hb2.size
  clear hb2
  (try clear B1)
  (try clear z1)
  (try clear k1_b2_0)
  (try clear g1_b2_0)
  (try clear k1_b2_1)
  (try clear g1_b2_1)
  (try clear k1_b3_0)
  (try clear g1_b3_0)
  (try clear k1_b3_1)
  (try clear g1_b3_1)
  (try clear q1_b2)
  (try clear x1_b2)
  (try clear y1_b2)
  (try clear q1_b3)
  (try clear x1_b3)
  (try clear y1_b3)
  have q2_b2 : w.heap.size < w2.heap.size := qlt k2_b2_0
  have x2_b2 : ¬ w.heap.size = w2.heap.size := qne k2_b2_0
  have y2_b2 : ¬ w2.heap.size = w.heap.size := fun h => qne k2_b2_0 h.symm
  have q2_b3 : w.heap.size + 1 < w2.heap.size := qlt k2_b3_0
  have x2_b3 : ¬ w.heap.size + 1 = w2.heap.size := qne k2_b3_0
  have y2_b3 : ¬ w2.heap.size = w.heap.size + 1 := fun h => qne k2_b3_0 h.symm
  unfold wpList
  go_wp2
  go_ret
  refine ⟨rfl, ?_⟩
  repeat (first | with_reducible exact Below.refl _ _ | with_reducible exact B2 | with_reducible apply below_drewN | with_reducible apply Below.drew | (with_reducible refine Below.alloc ?_ (by first | (simp; done) | (simp; omega) | omega) _) | (with_reducible refine Below.setCell ?_ (by first | (simp; done) | (simp; omega) | omega) _))
end Go.Proofs.Ytahdnlebokmajaa
