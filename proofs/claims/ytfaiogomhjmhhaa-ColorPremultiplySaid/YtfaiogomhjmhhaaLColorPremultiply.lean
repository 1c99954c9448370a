import Derived.Test.YtfaiogomhjmhhaaC7
import Derived.WalkKit
import Derived.WalkSpells
import Derived.WalkLawsBesides
import Derived.Lib.Hide
import Derived.Below
import Derived.Deep.QuietTactic
import Derived.BigQuiet
import Derived.Deep.RegionHeld3
import Derived.Deep.DrawnRows
import Derived.Deep.DeepFit
import Derived.IntWalk
namespace Go.Proofs.Ytfaiogomhjmhhaa
open Go.RowKit
set_option linter.unusedVariables false
set_option linter.unusedSimpArgs false
attribute [local go_sem ↓] Go.wp_at_zero Go.wp_at_succ
attribute [local go_sem] rhoF_tmp rhoF_const rhoF_global rhoF_func

set_option maxRecDepth 50000 in
set_option maxHeartbeats 8000000 in
theorem colorPremultiply_w (r g b a : Int) (r0 : 0 ≤ r) (r1 : r ≤ 255) (g0 : 0 ≤ g) (g1 : g ≤ 255) (b0 : 0 ≤ b) (b1 : b ≤ 255) (a0 : 0 ≤ a) (a1 : a ≤ 255) (w : World) :
    Calls Try.prog 3 #[.agg #[.int .u8 r, .int .u8 g, .int .u8 b, .int .u8 a]] w fun e w' => e = .returned (.bool true) ∧ Below w.heap.size w w' := by
  obtain ⟨_, _, b0', b1', b2', b3'⟩ := mn8_bd r a r0 r1 a0 a1
  obtain ⟨_, _, c0', c1', c2', c3'⟩ := mn8_bd g a g0 g1 a0 a1
  obtain ⟨_, _, d0', d1', d2', d3'⟩ := mn8_bd b a b0 b1 a0 a1
  have cp := fun w => premul_any r g b a r0 r1 g0 g1 b0 b1 a0 a1 w
  have cr := fun w => rpremul_any r g b a r0 r1 g0 g1 b0 b1 a0 a1 w
  have cv := fun w => valid_yes (mn8 r a) (mn8 g a) (mn8 b a) a b3' c3' d3' w
  have cf := fun w => formatI_any r g b a r0 r1 g0 g1 b0 b1 a0 a1 w
  have cg := fun w => rformatI_any r g b a r0 r1 g0 g1 b0 b1 a0 a1 w
  obtain ⟨FM, hFM⟩ : ∃ z, fmtI r g b a = z := ⟨_, rfl⟩
  rw [hFM] at cf cg
  obtain ⟨l0, hl0⟩ : ∃ z, mn8 r a = z := ⟨_, rfl⟩
  obtain ⟨l1, hl1⟩ : ∃ z, mn8 g a = z := ⟨_, rfl⟩
  obtain ⟨l2, hl2⟩ : ∃ z, mn8 b a = z := ⟨_, rfl⟩
  rw [hl0, hl1, hl2] at cp cr cv
  clear hFM hl0 hl1 hl2 b0' b1' b2' b3' c0' c1' c2' c3' d0' d1' d2' d3'
  go_enter Try.func3, Try.ntmps3
  go_wp2
  refine wp_region_env (fun w' => w'.cell? ⟨w.heap.size, 0, none⟩ = some (.int .u8 r) ∧ w'.frozen? ⟨w.heap.size, 0, none⟩ = false ∧ w'.cell? ⟨w.heap.size, 1, none⟩ = some (.int .u8 g) ∧ w'.frozen? ⟨w.heap.size, 1, none⟩ = false ∧ w'.cell? ⟨w.heap.size, 2, none⟩ = some (.int .u8 b) ∧ w'.frozen? ⟨w.heap.size, 2, none⟩ = false ∧ w'.cell? ⟨w.heap.size, 3, none⟩ = some (.int .u8 a) ∧ w'.frozen? ⟨w.heap.size, 3, none⟩ = false) (fun W => W.cell? ⟨w.heap.size, 0, none⟩ = some (.int .u8 r) ∧ W.frozen? ⟨w.heap.size, 0, none⟩ = false ∧ W.cell? ⟨w.heap.size, 1, none⟩ = some (.int .u8 g) ∧ W.frozen? ⟨w.heap.size, 1, none⟩ = false ∧ W.cell? ⟨w.heap.size, 2, none⟩ = some (.int .u8 b) ∧ W.frozen? ⟨w.heap.size, 2, none⟩ = false ∧ W.cell? ⟨w.heap.size, 3, none⟩ = some (.int .u8 a) ∧ W.frozen? ⟨w.heap.size, 3, none⟩ = false ∧ Below w.heap.size w W ∧ w.heap.size + 1 ≤ W.heap.size) 21 23 [.val (.agg #[.int .u8 r, .int .u8 g, .int .u8 b, .int .u8 a]), .call 9 #[.agg #[.int .u8 r, .int .u8 g, .int .u8 b, .int .u8 a]] (.agg #[.int .u8 l0, .int .u8 l1, .int .u8 l2, .int .u8 a]), .val (.agg #[.int .u8 r, .int .u8 g, .int .u8 b, .int .u8 a]), .call 10 #[.agg #[.int .u8 r, .int .u8 g, .int .u8 b, .int .u8 a]] (.agg #[.int .u8 l0, .int .u8 l1, .int .u8 l2, .int .u8 a]), .val (.bool true), .val (.bool true), .val (.agg #[.int .u8 r, .int .u8 g, .int .u8 b, .int .u8 a]), .call 9 #[.agg #[.int .u8 r, .int .u8 g, .int .u8 b, .int .u8 a]] (.agg #[.int .u8 l0, .int .u8 l1, .int .u8 l2, .int .u8 a]), .call 11 #[.agg #[.int .u8 l0, .int .u8 l1, .int .u8 l2, .int .u8 a]] (.bool true), .val (.bool true), .val (.bool true), .val (.agg #[.int .u8 r, .int .u8 g, .int .u8 b, .int .u8 a]), .call 12 #[.agg #[.int .u8 r, .int .u8 g, .int .u8 b, .int .u8 a]] (.string FM), .val (.agg #[.int .u8 r, .int .u8 g, .int .u8 b, .int .u8 a]), .call 13 #[.agg #[.int .u8 r, .int .u8 g, .int .u8 b, .int .u8 a]] (.string FM), .val (.bool true), .val (.bool true), .val (.bool true), .call 14 #[] (.bool true), .val (.bool true), .val (.bool true)] (by kernel_rfl) (by kernel_rfl) rfl (by kernel_rfl) (by rintro w1 w2 ⟨h0, h1, h2, h3, h4, h5, h6, h7⟩ hb; exact ⟨bcs hb h0, bfs hb h0 h1, bcs hb h2, bfs hb h2 h3, bcs hb h4, bfs hb h4 h5, bcs hb h6, bfs hb h6 h7⟩) ⟨by first | with_reducible assumption | go_simp, by first | with_reducible assumption | go_simp, by first | with_reducible assumption | go_simp, by first | with_reducible assumption | go_simp, by first | with_reducible assumption | go_simp, by first | with_reducible assumption | go_simp, by first | with_reducible assumption | go_simp, by first | with_reducible assumption | go_simp, by repeat (first | with_reducible exact Below.refl _ _ | fail | with_reducible apply below_drewN | with_reducible apply Below.drew | (with_reducible refine Below.alloc ?_ (by first | (simp; done) | (simp; omega) | omega) _) | (with_reducible refine Below.setCell ?_ (by first | (simp; done) | (simp; omega) | omega) _)), by first | with_reducible assumption | (simp; done) | (simp; omega)⟩ ?_ ?_
  · rintro W ⟨k1_b1_0, g1_b1_0, k1_b1_1, g1_b1_1, k1_b1_2, g1_b1_2, k1_b1_3, g1_b1_3, B1, z1⟩; exact ⟨k1_b1_0, g1_b1_0, k1_b1_1, g1_b1_1, k1_b1_2, g1_b1_2, k1_b1_3, g1_b1_3⟩
  rintro w1 ⟨k1_b1_0, g1_b1_0, k1_b1_1, g1_b1_1, k1_b1_2, g1_b1_2, k1_b1_3, g1_b1_3, B1, z1⟩ gg
  simp only [List.take_succ_cons, List.take_zero, List.drop_succ_cons, List.drop_zero, List.cons_append, List.nil_append, List.append_nil]
  refine obe_val (by rfl) ?_ ?_
  · clear k1_b1_0 g1_b1_0 k1_b1_1 g1_b1_1 k1_b1_2 g1_b1_2 k1_b1_3 g1_b1_3 B1 z1; intro f hf; have u1 : f 1 = (.pointer (some ⟨w.heap.size, 0, none⟩)) := (by rw [← hf]; rfl); clear hf; rintro w' ⟨h0, h1, h2, h3, h4, h5, h6, h7⟩; go_simp; try exact IntWalk.i64_in _ (by omega)
  refine obe_call (by rfl) ?_ ?_ ?_
  · clear k1_b1_0 g1_b1_0 k1_b1_1 g1_b1_1 k1_b1_2 g1_b1_2 k1_b1_3 g1_b1_3 B1 z1; intro f hf; have u3 : f 3 = (.agg #[.int .u8 r, .int .u8 g, .int .u8 b, .int .u8 a]) := (by rw [← hf]; rfl); clear hf; intro w' _; simp only [execOp, resolve, invoke, rhoF_tmp, rhoF_func, rhoF_const, u3, List.map_toArray, List.map_cons, List.map_nil]; go_simp
  · clear k1_b1_0 g1_b1_0 k1_b1_1 g1_b1_1 k1_b1_2 g1_b1_2 k1_b1_3 g1_b1_3 B1 z1; rintro w' ⟨h0, h1, h2, h3, h4, h5, h6, h7⟩; exact cp _
  refine obe_val (by rfl) ?_ ?_
  · clear k1_b1_0 g1_b1_0 k1_b1_1 g1_b1_1 k1_b1_2 g1_b1_2 k1_b1_3 g1_b1_3 B1 z1; intro f hf; have u1 : f 1 = (.pointer (some ⟨w.heap.size, 0, none⟩)) := (by rw [← hf]; rfl); clear hf; rintro w' ⟨h0, h1, h2, h3, h4, h5, h6, h7⟩; go_simp; try exact IntWalk.i64_in _ (by omega)
  refine obe_call (by rfl) ?_ ?_ ?_
  · clear k1_b1_0 g1_b1_0 k1_b1_1 g1_b1_1 k1_b1_2 g1_b1_2 k1_b1_3 g1_b1_3 B1 z1; intro f hf; have u5 : f 5 = (.agg #[.int .u8 r, .int .u8 g, .int .u8 b, .int .u8 a]) := (by rw [← hf]; rfl); clear hf; intro w' _; simp only [execOp, resolve, invoke, rhoF_tmp, rhoF_func, rhoF_const, u5, List.map_toArray, List.map_cons, List.map_nil]; go_simp
  · clear k1_b1_0 g1_b1_0 k1_b1_1 g1_b1_1 k1_b1_2 g1_b1_2 k1_b1_3 g1_b1_3 B1 z1; rintro w' ⟨h0, h1, h2, h3, h4, h5, h6, h7⟩; exact cr _
  refine obe_val (by rfl) ?_ ?_
  · clear k1_b1_0 g1_b1_0 k1_b1_1 g1_b1_1 k1_b1_2 g1_b1_2 k1_b1_3 g1_b1_3 B1 z1; intro f hf; have u4 : f 4 = (.agg #[.int .u8 l0, .int .u8 l1, .int .u8 l2, .int .u8 a]) := (by rw [← hf]; rfl); have u6 : f 6 = (.agg #[.int .u8 l0, .int .u8 l1, .int .u8 l2, .int .u8 a]) := (by rw [← hf]; rfl); clear hf; rintro w' ⟨h0, h1, h2, h3, h4, h5, h6, h7⟩; go_simp; try exact IntWalk.i64_in _ (by omega)
  refine obe_val (by rfl) ?_ ?_
  · clear k1_b1_0 g1_b1_0 k1_b1_1 g1_b1_1 k1_b1_2 g1_b1_2 k1_b1_3 g1_b1_3 B1 z1; intro f hf; have u7 : f 7 = (.bool true) := (by rw [← hf]; rfl); clear hf; rintro w' ⟨h0, h1, h2, h3, h4, h5, h6, h7⟩; go_simp; try exact IntWalk.i64_in _ (by omega)
  refine obe_val (by rfl) ?_ ?_
  · clear k1_b1_0 g1_b1_0 k1_b1_1 g1_b1_1 k1_b1_2 g1_b1_2 k1_b1_3 g1_b1_3 B1 z1; intro f hf; have u1 : f 1 = (.pointer (some ⟨w.heap.size, 0, none⟩)) := (by rw [← hf]; rfl); clear hf; rintro w' ⟨h0, h1, h2, h3, h4, h5, h6, h7⟩; go_simp; try exact IntWalk.i64_in _ (by omega)
  refine obe_call (by rfl) ?_ ?_ ?_
  · clear k1_b1_0 g1_b1_0 k1_b1_1 g1_b1_1 k1_b1_2 g1_b1_2 k1_b1_3 g1_b1_3 B1 z1; intro f hf; have u9 : f 9 = (.agg #[.int .u8 r, .int .u8 g, .int .u8 b, .int .u8 a]) := (by rw [← hf]; rfl); clear hf; intro w' _; simp only [execOp, resolve, invoke, rhoF_tmp, rhoF_func, rhoF_const, u9, List.map_toArray, List.map_cons, List.map_nil]; go_simp
  · clear k1_b1_0 g1_b1_0 k1_b1_1 g1_b1_1 k1_b1_2 g1_b1_2 k1_b1_3 g1_b1_3 B1 z1; rintro w' ⟨h0, h1, h2, h3, h4, h5, h6, h7⟩; exact cp _
  refine obe_call (by rfl) ?_ ?_ ?_
  · clear k1_b1_0 g1_b1_0 k1_b1_1 g1_b1_1 k1_b1_2 g1_b1_2 k1_b1_3 g1_b1_3 B1 z1; intro f hf; have u10 : f 10 = (.agg #[.int .u8 l0, .int .u8 l1, .int .u8 l2, .int .u8 a]) := (by rw [← hf]; rfl); clear hf; intro w' _; simp only [execOp, resolve, invoke, rhoF_tmp, rhoF_func, rhoF_const, u10, List.map_toArray, List.map_cons, List.map_nil]; go_simp
  · clear k1_b1_0 g1_b1_0 k1_b1_1 g1_b1_1 k1_b1_2 g1_b1_2 k1_b1_3 g1_b1_3 B1 z1; rintro w' ⟨h0, h1, h2, h3, h4, h5, h6, h7⟩; exact cv _
  refine obe_val (by rfl) ?_ ?_
  · clear k1_b1_0 g1_b1_0 k1_b1_1 g1_b1_1 k1_b1_2 g1_b1_2 k1_b1_3 g1_b1_3 B1 z1; intro f hf; have u8 : f 8 = (.bool true) := (by rw [← hf]; rfl); have u11 : f 11 = (.bool true) := (by rw [← hf]; rfl); clear hf; rintro w' ⟨h0, h1, h2, h3, h4, h5, h6, h7⟩; go_simp; try exact IntWalk.i64_in _ (by omega)
  refine obe_val (by rfl) ?_ ?_
  · clear k1_b1_0 g1_b1_0 k1_b1_1 g1_b1_1 k1_b1_2 g1_b1_2 k1_b1_3 g1_b1_3 B1 z1; intro f hf; have u12 : f 12 = (.bool true) := (by rw [← hf]; rfl); clear hf; rintro w' ⟨h0, h1, h2, h3, h4, h5, h6, h7⟩; go_simp; try exact IntWalk.i64_in _ (by omega)
  refine obe_val (by rfl) ?_ ?_
  · clear k1_b1_0 g1_b1_0 k1_b1_1 g1_b1_1 k1_b1_2 g1_b1_2 k1_b1_3 g1_b1_3 B1 z1; intro f hf; have u1 : f 1 = (.pointer (some ⟨w.heap.size, 0, none⟩)) := (by rw [← hf]; rfl); clear hf; rintro w' ⟨h0, h1, h2, h3, h4, h5, h6, h7⟩; go_simp; try exact IntWalk.i64_in _ (by omega)
  refine obe_call (by rfl) ?_ ?_ ?_
  · clear k1_b1_0 g1_b1_0 k1_b1_1 g1_b1_1 k1_b1_2 g1_b1_2 k1_b1_3 g1_b1_3 B1 z1; intro f hf; have u14 : f 14 = (.agg #[.int .u8 r, .int .u8 g, .int .u8 b, .int .u8 a]) := (by rw [← hf]; rfl); clear hf; intro w' _; simp only [execOp, resolve, invoke, rhoF_tmp, rhoF_func, rhoF_const, u14, List.map_toArray, List.map_cons, List.map_nil]; go_simp
  · clear k1_b1_0 g1_b1_0 k1_b1_1 g1_b1_1 k1_b1_2 g1_b1_2 k1_b1_3 g1_b1_3 B1 z1; rintro w' ⟨h0, h1, h2, h3, h4, h5, h6, h7⟩; exact cf _
  refine obe_val (by rfl) ?_ ?_
  · clear k1_b1_0 g1_b1_0 k1_b1_1 g1_b1_1 k1_b1_2 g1_b1_2 k1_b1_3 g1_b1_3 B1 z1; intro f hf; have u1 : f 1 = (.pointer (some ⟨w.heap.size, 0, none⟩)) := (by rw [← hf]; rfl); clear hf; rintro w' ⟨h0, h1, h2, h3, h4, h5, h6, h7⟩; go_simp; try exact IntWalk.i64_in _ (by omega)
  refine obe_call (by rfl) ?_ ?_ ?_
  · clear k1_b1_0 g1_b1_0 k1_b1_1 g1_b1_1 k1_b1_2 g1_b1_2 k1_b1_3 g1_b1_3 B1 z1; intro f hf; have u16 : f 16 = (.agg #[.int .u8 r, .int .u8 g, .int .u8 b, .int .u8 a]) := (by rw [← hf]; rfl); clear hf; intro w' _; simp only [execOp, resolve, invoke, rhoF_tmp, rhoF_func, rhoF_const, u16, List.map_toArray, List.map_cons, List.map_nil]; go_simp
  · clear k1_b1_0 g1_b1_0 k1_b1_1 g1_b1_1 k1_b1_2 g1_b1_2 k1_b1_3 g1_b1_3 B1 z1; rintro w' ⟨h0, h1, h2, h3, h4, h5, h6, h7⟩; exact cg _
  refine obe_val (by rfl) ?_ ?_
  · clear k1_b1_0 g1_b1_0 k1_b1_1 g1_b1_1 k1_b1_2 g1_b1_2 k1_b1_3 g1_b1_3 B1 z1; intro f hf; have u15 : f 15 = (.string FM) := (by rw [← hf]; rfl); have u17 : f 17 = (.string FM) := (by rw [← hf]; rfl); clear hf; rintro w' ⟨h0, h1, h2, h3, h4, h5, h6, h7⟩; go_simp; try exact IntWalk.i64_in _ (by omega)
  refine obe_val (by rfl) ?_ ?_
  · clear k1_b1_0 g1_b1_0 k1_b1_1 g1_b1_1 k1_b1_2 g1_b1_2 k1_b1_3 g1_b1_3 B1 z1; intro f hf; have u13 : f 13 = (.bool true) := (by rw [← hf]; rfl); have u18 : f 18 = (.bool true) := (by rw [← hf]; rfl); clear hf; rintro w' ⟨h0, h1, h2, h3, h4, h5, h6, h7⟩; go_simp; try exact IntWalk.i64_in _ (by omega)
  refine obe_val (by rfl) ?_ ?_
  · clear k1_b1_0 g1_b1_0 k1_b1_1 g1_b1_1 k1_b1_2 g1_b1_2 k1_b1_3 g1_b1_3 B1 z1; intro f hf; have u19 : f 19 = (.bool true) := (by rw [← hf]; rfl); clear hf; rintro w' ⟨h0, h1, h2, h3, h4, h5, h6, h7⟩; go_simp; try exact IntWalk.i64_in _ (by omega)
  refine obe_call (by rfl) ?_ ?_ ?_
  · clear k1_b1_0 g1_b1_0 k1_b1_1 g1_b1_1 k1_b1_2 g1_b1_2 k1_b1_3 g1_b1_3 B1 z1; intro f hf; clear hf; intro w' _; simp only [execOp, resolve, invoke, rhoF_tmp, rhoF_func, rhoF_const, List.map_toArray, List.map_cons, List.map_nil]; go_simp
  · clear k1_b1_0 g1_b1_0 k1_b1_1 g1_b1_1 k1_b1_2 g1_b1_2 k1_b1_3 g1_b1_3 B1 z1; rintro w' ⟨h0, h1, h2, h3, h4, h5, h6, h7⟩; exact cex_any _
  refine obe_val (by rfl) ?_ ?_
  · clear k1_b1_0 g1_b1_0 k1_b1_1 g1_b1_1 k1_b1_2 g1_b1_2 k1_b1_3 g1_b1_3 B1 z1; intro f hf; have u20 : f 20 = (.bool true) := (by rw [← hf]; rfl); have u21 : f 21 = (.bool true) := (by rw [← hf]; rfl); clear hf; rintro w' ⟨h0, h1, h2, h3, h4, h5, h6, h7⟩; go_simp; try exact IntWalk.i64_in _ (by omega)
  refine obe_val (by rfl) ?_ ?_
  · clear k1_b1_0 g1_b1_0 k1_b1_1 g1_b1_1 k1_b1_2 g1_b1_2 k1_b1_3 g1_b1_3 B1 z1; intro f hf; have u22 : f 22 = (.bool true) := (by rw [← hf]; rfl); clear hf; rintro w' ⟨h0, h1, h2, h3, h4, h5, h6, h7⟩; go_simp; try exact IntWalk.i64_in _ (by omega)
  refine obe_nil ?_
  rintro w2 ⟨h0, h1, h2, h3, h4, h5, h6, h7⟩ hb2 hF
  (try simp only [List.nil_append, List.append_nil, List.cons_append] at hF)
  simp only [puts, putD, Act.put, List.setIfInBounds_toArray, List.set_cons_zero, List.set_cons_succ]
  clear hF
  have k2_b1_0 := bcs hb2 k1_b1_0
  have g2_b1_0 := bfs hb2 k1_b1_0 g1_b1_0
  have k2_b1_1 := bcs hb2 k1_b1_1
  have g2_b1_1 := bfs hb2 k1_b1_1 g1_b1_1
  have k2_b1_2 := bcs hb2 k1_b1_2
  have g2_b1_2 := bfs hb2 k1_b1_2 g1_b1_2
  have k2_b1_3 := bcs hb2 k1_b1_3
  have g2_b1_3 := bfs hb2 k1_b1_3 g1_b1_3
  clear h0 h1 h2 h3 h4 h5 h6 h7
  have B2 := bel_step B1 hb2
  have z2 := Nat.le_trans z1 hb2.size
  clear hb2
  (try clear B1)
  (try clear z1)
  (try clear k1_b1_0)
  (try clear g1_b1_0)
  (try clear k1_b1_1)
  (try clear g1_b1_1)
  (try clear k1_b1_2)
  (try clear g1_b1_2)
  (try clear k1_b1_3)
  (try clear g1_b1_3)
  (try clear q1_b1)
  (try clear x1_b1)
  (try clear y1_b1)
  have q2_b1 : w.heap.size < w2.heap.size := qlt k2_b1_0
  have x2_b1 : ¬ w.heap.size = w2.heap.size := qne k2_b1_0
  have y2_b1 : ¬ w2.heap.size = w.heap.size := fun h => qne k2_b1_0 h.symm
  unfold wpList
  go_wp2
  go_ret
  refine ⟨rfl, ?_⟩
  repeat (first | with_reducible exact Below.refl _ _ | with_reducible exact B2 | with_reducible apply below_drewN | with_reducible apply Below.drew | (with_reducible refine Below.alloc ?_ (by first | (simp; done) | (simp; omega) | omega) _) | (with_reducible refine Below.setCell ?_ (by first | (simp; done) | (simp; omega) | omega) _))
end Go.Proofs.Ytfaiogomhjmhhaa
