import Derived.Test.YtdhajiaepaamgaaDoorBX
import Derived.Test.YtdhajiaepaamgaaDoorSymNum
import Derived.WalkKit
import Derived.WalkSpells
import Derived.WalkLawsBesides
import Derived.Lib.Hide
import Derived.Below
import Derived.Deep.QuietTactic
import Derived.BigQuiet
import Derived.Deep.RegionHeld3
import Derived.Deep.DrawnRows
import Derived.Deep.DeepFit
import Derived.IntWalk
namespace Go.Proofs.YtdhajiaepaamgaaDoor
open Go.RowKit
set_option linter.unusedVariables false
set_option linter.unusedSimpArgs false
attribute [local go_sem ↓] Go.wp_at_zero Go.wp_at_succ
attribute [local go_sem] rhoF_tmp rhoF_const rhoF_global rhoF_func

set_option maxHeartbeats 4000000 in
theorem bsym_w (m r g b a s t u d : Int) (r0 : 0 ≤ r) (r1 : r ≤ 255) (g0 : 0 ≤ g) (g1 : g ≤ 255) (b0 : 0 ≤ b) (b1 : b ≤ 255) (a0 : 0 ≤ a) (a1 : a ≤ 255) (s0 : 0 ≤ s) (s1 : s ≤ 255) (t0 : 0 ≤ t) (t1 : t ≤ 255) (u0 : 0 ≤ u) (u1 : u ≤ 255) (d0 : 0 ≤ d) (d1 : d ≤ 255) (w : World) (hN : Nm w) :
    Calls Tryd.prog 8 #[.int .i64 m, .agg #[.int .u8 r, .int .u8 g, .int .u8 b, .int .u8 a], .agg #[.int .u8 s, .int .u8 t, .int .u8 u, .int .u8 d]] w fun e w' => e = .returned (.bool true) ∧ Below w.heap.size w w' := by
  have c9 := fun w => blend_any 9 r g b a s t u d (by omega) (by omega) r0 r1 g0 g1 b0 b1 a0 a1 s0 s1 t0 t1 u0 u1 d0 d1 w
  have c4 := fun w => blend_any 4 s t u d r g b a (by omega) (by omega) s0 s1 t0 t1 u0 u1 d0 d1 r0 r1 g0 g1 b0 b1 a0 a1 w
  rw [bc_49, bc_49, bc_49, al_comm] at c4
  obtain ⟨y0, hy0⟩ : ∃ x, bc 9 (min r a) a (min s d) d = x := ⟨_, rfl⟩
  obtain ⟨y1, hy1⟩ : ∃ x, bc 9 (min g a) a (min t d) d = x := ⟨_, rfl⟩
  obtain ⟨y2, hy2⟩ : ∃ x, bc 9 (min b a) a (min u d) d = x := ⟨_, rfl⟩
  obtain ⟨z, hz⟩ : ∃ x, divN (unc a a d d + a * d) = x := ⟨_, rfl⟩
  rw [hy0, hy1, hy2, hz] at c9 c4
  clear hy0 hy1 hy2
  by_cases k2 : m = 2
  · subst k2
    have e1 := fun w => blend_any 2 r g b a s t u d (by omega) (by omega) r0 r1 g0 g1 b0 b1 a0 a1 s0 s1 t0 t1 u0 u1 d0 d1 w
    have e2 := fun w => blend_any 2 s t u d r g b a (by omega) (by omega) s0 s1 t0 t1 u0 u1 d0 d1 r0 r1 g0 g1 b0 b1 a0 a1 w
    rw [bc_comm 2 (min r a) a (min s d) d (by omega), bc_comm 2 (min g a) a (min t d) d (by omega), bc_comm 2 (min b a) a (min u d) d (by omega), al_comm, hz] at e2
    rw [hz] at e1
    clear hz
    obtain ⟨q0, hq0⟩ : ∃ x, bc 2 (min r a) a (min s d) d = x := ⟨_, rfl⟩
    obtain ⟨q1, hq1⟩ : ∃ x, bc 2 (min g a) a (min t d) d = x := ⟨_, rfl⟩
    obtain ⟨q2, hq2⟩ : ∃ x, bc 2 (min b a) a (min u d) d = x := ⟨_, rfl⟩
    rw [hq0, hq1, hq2] at e1 e2
    clear hq0 hq1 hq2
    go_enter Tryd.func8, Tryd.ntmps8
    go_wp2
    refine wp_region_env (fun w' => w'.cell? ⟨w.heap.size, 0, none⟩ = some (.int .u8 r) ∧ w'.frozen? ⟨w.heap.size, 0, none⟩ = false ∧ w'.cell? ⟨w.heap.size, 1, none⟩ = some (.int .u8 g) ∧ w'.frozen? ⟨w.heap.size, 1, none⟩ = false ∧ w'.cell? ⟨w.heap.size, 2, none⟩ = some (.int .u8 b) ∧ w'.frozen? ⟨w.heap.size, 2, none⟩ = false ∧ w'.cell? ⟨w.heap.size, 3, none⟩ = some (.int .u8 a) ∧ w'.frozen? ⟨w.heap.size, 3, none⟩ = false ∧ w'.cell? ⟨w.heap.size + 1, 0, none⟩ = some (.int .u8 s) ∧ w'.frozen? ⟨w.heap.size + 1, 0, none⟩ = false ∧ w'.cell? ⟨w.heap.size + 1, 1, none⟩ = some (.int .u8 t) ∧ w'.frozen? ⟨w.heap.size + 1, 1, none⟩ = false ∧ w'.cell? ⟨w.heap.size + 1, 2, none⟩ = some (.int .u8 u) ∧ w'.frozen? ⟨w.heap.size + 1, 2, none⟩ = false ∧ w'.cell? ⟨w.heap.size + 1, 3, none⟩ = some (.int .u8 d) ∧ w'.frozen? ⟨w.heap.size + 1, 3, none⟩ = false ∧ Nm w') (fun W => W.cell? ⟨w.heap.size, 0, none⟩ = some (.int .u8 r) ∧ W.frozen? ⟨w.heap.size, 0, none⟩ = false ∧ W.cell? ⟨w.heap.size, 1, none⟩ = some (.int .u8 g) ∧ W.frozen? ⟨w.heap.size, 1, none⟩ = false ∧ W.cell? ⟨w.heap.size, 2, none⟩ = some (.int .u8 b) ∧ W.frozen? ⟨w.heap.size, 2, none⟩ = false ∧ W.cell? ⟨w.heap.size, 3, none⟩ = some (.int .u8 a) ∧ W.frozen? ⟨w.heap.size, 3, none⟩ = false ∧ W.cell? ⟨w.heap.size + 1, 0, none⟩ = some (.int .u8 s) ∧ W.frozen? ⟨w.heap.size + 1, 0, none⟩ = false ∧ W.cell? ⟨w.heap.size + 1, 1, none⟩ = some (.int .u8 t) ∧ W.frozen? ⟨w.heap.size + 1, 1, none⟩ = false ∧ W.cell? ⟨w.heap.size + 1, 2, none⟩ = some (.int .u8 u) ∧ W.frozen? ⟨w.heap.size + 1, 2, none⟩ = false ∧ W.cell? ⟨w.heap.size + 1, 3, none⟩ = some (.int .u8 d) ∧ W.frozen? ⟨w.heap.size + 1, 3, none⟩ = false ∧ Nm W ∧ Below w.heap.size w W ∧ w.heap.size + 1 + 1 ≤ W.heap.size) 7 35 [.val (.agg #[.int .u8 r, .int .u8 g, .int .u8 b, .int .u8 a]), .val (.agg #[.int .u8 s, .int .u8 t, .int .u8 u, .int .u8 d]), .call 23 #[.int .i64 9, .agg #[.int .u8 r, .int .u8 g, .int .u8 b, .int .u8 a], .agg #[.int .u8 s, .int .u8 t, .int .u8 u, .int .u8 d]] (.agg #[.int .u8 y0, .int .u8 y1, .int .u8 y2, .int .u8 z]), .val (.agg #[.int .u8 s, .int .u8 t, .int .u8 u, .int .u8 d]), .val (.agg #[.int .u8 r, .int .u8 g, .int .u8 b, .int .u8 a]), .call 23 #[.int .i64 4, .agg #[.int .u8 s, .int .u8 t, .int .u8 u, .int .u8 d], .agg #[.int .u8 r, .int .u8 g, .int .u8 b, .int .u8 a]] (.agg #[.int .u8 y0, .int .u8 y1, .int .u8 y2, .int .u8 z]), .val (.bool false)] (by kernel_rfl) (by kernel_rfl) rfl (by kernel_rfl) (by rintro w1 w2 ⟨h0, h1, h2, h3, h4, h5, h6, h7, h8, h9, h10, h11, h12, h13, h14, h15, h16⟩ hb; exact ⟨bcs hb h0, bfs hb h0 h1, bcs hb h2, bfs hb h2 h3, bcs hb h4, bfs hb h4 h5, bcs hb h6, bfs hb h6 h7, bcs hb h8, bfs hb h8 h9, bcs hb h10, bfs hb h10 h11, bcs hb h12, bfs hb h12 h13, bcs hb h14, bfs hb h14 h15, Nm.below h16 hb⟩) ⟨by first | with_reducible assumption | go_simp, by first | with_reducible assumption | go_simp, by first | with_reducible assumption | go_simp, by first | with_reducible assumption | go_simp, by first | with_reducible assumption | go_simp, by first | with_reducible assumption | go_simp, by first | with_reducible assumption | go_simp, by first | with_reducible assumption | go_simp, by first | with_reducible assumption | go_simp, by first | with_reducible assumption | go_simp, by first | with_reducible assumption | go_simp, by first | with_reducible assumption | go_simp, by first | with_reducible assumption | go_simp, by first | with_reducible assumption | go_simp, by first | with_reducible assumption | go_simp, by first | with_reducible assumption | go_simp, Nm.below hN (by repeat (first | with_reducible exact Below.refl _ _ | fail | with_reducible apply below_drewN | with_reducible apply Below.drew | (with_reducible refine Below.alloc ?_ (by first | (simp; done) | (simp; omega) | omega) _) | (with_reducible refine Below.setCell ?_ (by first | (simp; done) | (simp; omega) | omega) _))), by repeat (first | with_reducible exact Below.refl _ _ | fail | with_reducible apply below_drewN | with_reducible apply Below.drew | (with_reducible refine Below.alloc ?_ (by first | (simp; done) | (simp; omega) | omega) _) | (with_reducible refine Below.setCell ?_ (by first | (simp; done) | (simp; omega) | omega) _)), by first | with_reducible assumption | (simp; done) | (simp; omega)⟩ ?_ ?_
    · rintro W ⟨k1_b4_0, g1_b4_0, k1_b4_1, g1_b4_1, k1_b4_2, g1_b4_2, k1_b4_3, g1_b4_3, k1_b5_0, g1_b5_0, k1_b5_1, g1_b5_1, k1_b5_2, g1_b5_2, k1_b5_3, g1_b5_3, e1_0, B1, z1⟩; exact ⟨k1_b4_0, g1_b4_0, k1_b4_1, g1_b4_1, k1_b4_2, g1_b4_2, k1_b4_3, g1_b4_3, k1_b5_0, g1_b5_0, k1_b5_1, g1_b5_1, k1_b5_2, g1_b5_2, k1_b5_3, g1_b5_3, e1_0⟩
    rintro w1 ⟨k1_b4_0, g1_b4_0, k1_b4_1, g1_b4_1, k1_b4_2, g1_b4_2, k1_b4_3, g1_b4_3, k1_b5_0, g1_b5_0, k1_b5_1, g1_b5_1, k1_b5_2, g1_b5_2, k1_b5_3, g1_b5_3, e1_0, B1, z1⟩ gg
    simp only [List.take_succ_cons, List.take_zero, List.drop_succ_cons, List.drop_zero, List.cons_append, List.nil_append, List.append_nil]
    refine obe_val (by rfl) ?_ ?_
    · clear k1_b4_0 g1_b4_0 k1_b4_1 g1_b4_1 k1_b4_2 g1_b4_2 k1_b4_3 g1_b4_3 k1_b5_0 g1_b5_0 k1_b5_1 g1_b5_1 k1_b5_2 g1_b5_2 k1_b5_3 g1_b5_3 e1_0 B1 z1; intro f hf; have u4 : f 4 = (.pointer (some ⟨w.heap.size, 0, none⟩)) := (by rw [← hf]; rfl); clear hf; rintro w' ⟨h0, h1, h2, h3, h4, h5, h6, h7, h8, h9, h10, h11, h12, h13, h14, h15, h16⟩; go_simp; try exact IntWalk.i64_in _ (by omega)
    refine obe_val (by rfl) ?_ ?_
    · clear k1_b4_0 g1_b4_0 k1_b4_1 g1_b4_1 k1_b4_2 g1_b4_2 k1_b4_3 g1_b4_3 k1_b5_0 g1_b5_0 k1_b5_1 g1_b5_1 k1_b5_2 g1_b5_2 k1_b5_3 g1_b5_3 e1_0 B1 z1; intro f hf; have u5 : f 5 = (.pointer (some ⟨w.heap.size + 1, 0, none⟩)) := (by rw [← hf]; rfl); clear hf; rintro w' ⟨h0, h1, h2, h3, h4, h5, h6, h7, h8, h9, h10, h11, h12, h13, h14, h15, h16⟩; go_simp; try exact IntWalk.i64_in _ (by omega)
    refine obe_call (by rfl) ?_ ?_ ?_
    · clear k1_b4_0 g1_b4_0 k1_b4_1 g1_b4_1 k1_b4_2 g1_b4_2 k1_b4_3 g1_b4_3 k1_b5_0 g1_b5_0 k1_b5_1 g1_b5_1 k1_b5_2 g1_b5_2 k1_b5_3 g1_b5_3 e1_0 B1 z1; intro f hf; have u7 : f 7 = (.agg #[.int .u8 r, .int .u8 g, .int .u8 b, .int .u8 a]) := (by rw [← hf]; rfl); have u8 : f 8 = (.agg #[.int .u8 s, .int .u8 t, .int .u8 u, .int .u8 d]) := (by rw [← hf]; rfl); clear hf; intro w' _; simp only [execOp, resolve, invoke, rhoF_tmp, rhoF_func, rhoF_const, u7, u8, List.map_toArray, List.map_cons, List.map_nil]; go_simp
    · clear k1_b4_0 g1_b4_0 k1_b4_1 g1_b4_1 k1_b4_2 g1_b4_2 k1_b4_3 g1_b4_3 k1_b5_0 g1_b5_0 k1_b5_1 g1_b5_1 k1_b5_2 g1_b5_2 k1_b5_3 g1_b5_3 e1_0 B1 z1; rintro w' ⟨h0, h1, h2, h3, h4, h5, h6, h7, h8, h9, h10, h11, h12, h13, h14, h15, h16⟩; exact c9 _
    refine obe_val (by rfl) ?_ ?_
    · clear k1_b4_0 g1_b4_0 k1_b4_1 g1_b4_1 k1_b4_2 g1_b4_2 k1_b4_3 g1_b4_3 k1_b5_0 g1_b5_0 k1_b5_1 g1_b5_1 k1_b5_2 g1_b5_2 k1_b5_3 g1_b5_3 e1_0 B1 z1; intro f hf; have u5 : f 5 = (.pointer (some ⟨w.heap.size + 1, 0, none⟩)) := (by rw [← hf]; rfl); clear hf; rintro w' ⟨h0, h1, h2, h3, h4, h5, h6, h7, h8, h9, h10, h11, h12, h13, h14, h15, h16⟩; go_simp; try exact IntWalk.i64_in _ (by omega)
    refine obe_val (by rfl) ?_ ?_
    · clear k1_b4_0 g1_b4_0 k1_b4_1 g1_b4_1 k1_b4_2 g1_b4_2 k1_b4_3 g1_b4_3 k1_b5_0 g1_b5_0 k1_b5_1 g1_b5_1 k1_b5_2 g1_b5_2 k1_b5_3 g1_b5_3 e1_0 B1 z1; intro f hf; have u4 : f 4 = (.pointer (some ⟨w.heap.size, 0, none⟩)) := (by rw [← hf]; rfl); clear hf; rintro w' ⟨h0, h1, h2, h3, h4, h5, h6, h7, h8, h9, h10, h11, h12, h13, h14, h15, h16⟩; go_simp; try exact IntWalk.i64_in _ (by omega)
    refine obe_call (by rfl) ?_ ?_ ?_
    · clear k1_b4_0 g1_b4_0 k1_b4_1 g1_b4_1 k1_b4_2 g1_b4_2 k1_b4_3 g1_b4_3 k1_b5_0 g1_b5_0 k1_b5_1 g1_b5_1 k1_b5_2 g1_b5_2 k1_b5_3 g1_b5_3 e1_0 B1 z1; intro f hf; have u10 : f 10 = (.agg #[.int .u8 s, .int .u8 t, .int .u8 u, .int .u8 d]) := (by rw [← hf]; rfl); have u11 : f 11 = (.agg #[.int .u8 r, .int .u8 g, .int .u8 b, .int .u8 a]) := (by rw [← hf]; rfl); clear hf; intro w' _; simp only [execOp, resolve, invoke, rhoF_tmp, rhoF_func, rhoF_const, u10, u11, List.map_toArray, List.map_cons, List.map_nil]; go_simp
    · clear k1_b4_0 g1_b4_0 k1_b4_1 g1_b4_1 k1_b4_2 g1_b4_2 k1_b4_3 g1_b4_3 k1_b5_0 g1_b5_0 k1_b5_1 g1_b5_1 k1_b5_2 g1_b5_2 k1_b5_3 g1_b5_3 e1_0 B1 z1; rintro w' ⟨h0, h1, h2, h3, h4, h5, h6, h7, h8, h9, h10, h11, h12, h13, h14, h15, h16⟩; exact c4 _
    refine obe_val (by rfl) ?_ ?_
    · clear k1_b4_0 g1_b4_0 k1_b4_1 g1_b4_1 k1_b4_2 g1_b4_2 k1_b4_3 g1_b4_3 k1_b5_0 g1_b5_0 k1_b5_1 g1_b5_1 k1_b5_2 g1_b5_2 k1_b5_3 g1_b5_3 e1_0 B1 z1; intro f hf; have u9 : f 9 = (.agg #[.int .u8 y0, .int .u8 y1, .int .u8 y2, .int .u8 z]) := (by rw [← hf]; rfl); have u12 : f 12 = (.agg #[.int .u8 y0, .int .u8 y1, .int .u8 y2, .int .u8 z]) := (by rw [← hf]; rfl); clear hf; rintro w' ⟨h0, h1, h2, h3, h4, h5, h6, h7, h8, h9, h10, h11, h12, h13, h14, h15, h16⟩; go_simp; try exact IntWalk.i64_in _ (by omega)
    refine obe_nil ?_
    rintro w2 ⟨h0, h1, h2, h3, h4, h5, h6, h7, h8, h9, h10, h11, h12, h13, h14, h15, h16⟩ hb2 hF
    (try simp only [List.nil_append, List.append_nil, List.cons_append] at hF)
    simp only [puts, putD, Act.put, List.setIfInBounds_toArray, List.set_cons_zero, List.set_cons_succ]
    clear hF
    have k2_b4_0 := bcs hb2 k1_b4_0
    have g2_b4_0 := bfs hb2 k1_b4_0 g1_b4_0
    have k2_b4_1 := bcs hb2 k1_b4_1
    have g2_b4_1 := bfs hb2 k1_b4_1 g1_b4_1
    have k2_b4_2 := bcs hb2 k1_b4_2
    have g2_b4_2 := bfs hb2 k1_b4_2 g1_b4_2
    have k2_b4_3 := bcs hb2 k1_b4_3
    have g2_b4_3 := bfs hb2 k1_b4_3 g1_b4_3
    have k2_b5_0 := bcs hb2 k1_b5_0
    have g2_b5_0 := bfs hb2 k1_b5_0 g1_b5_0
    have k2_b5_1 := bcs hb2 k1_b5_1
    have g2_b5_1 := bfs hb2 k1_b5_1 g1_b5_1
    have k2_b5_2 := bcs hb2 k1_b5_2
    have g2_b5_2 := bfs hb2 k1_b5_2 g1_b5_2
    have k2_b5_3 := bcs hb2 k1_b5_3
    have g2_b5_3 := bfs hb2 k1_b5_3 g1_b5_3
    clear h0 h1 h2 h3 h4 h5 h6 h7 h8 h9 h10 h11 h12 h13 h14 h15 h16
    have B2 := bel_step B1 hb2
    have z2 := Nat.le_trans z1 hb2.size
    have e2_0 := Nm.below hN B2
    clear hb2
    (try clear B1)
    (try clear z1)
    (try clear k1_b4_0)
    (try clear g1_b4_0)
    (try clear k1_b4_1)
    (try clear g1_b4_1)
    (try clear k1_b4_2)
    (try clear g1_b4_2)
    (try clear k1_b4_3)
    (try clear g1_b4_3)
    (try clear k1_b5_0)
    (try clear g1_b5_0)
    (try clear k1_b5_1)
    (try clear g1_b5_1)
    (try clear k1_b5_2)
    (try clear g1_b5_2)
    (try clear k1_b5_3)
    (try clear g1_b5_3)
    (try clear e1_0)
    (try clear q1_b4)
    (try clear x1_b4)
    (try clear y1_b4)
    (try clear q1_b5)
    (try clear x1_b5)
    (try clear y1_b5)
    have q2_b4 : w.heap.size < w2.heap.size := qlt k2_b4_0
    have x2_b4 : ¬ w.heap.size = w2.heap.size := qne k2_b4_0
    have y2_b4 : ¬ w2.heap.size = w.heap.size := fun h => qne k2_b4_0 h.symm
    have q2_b5 : w.heap.size + 1 < w2.heap.size := qlt k2_b5_0
    have x2_b5 : ¬ w.heap.size + 1 = w2.heap.size := qne k2_b5_0
    have y2_b5 : ¬ w2.heap.size = w.heap.size + 1 := fun h => qne k2_b5_0 h.symm
    unfold wpList
    go_wp2
    refine wp_region_env (fun w' => w'.cell? ⟨w.heap.size, 0, none⟩ = some (.int .u8 r) ∧ w'.frozen? ⟨w.heap.size, 0, none⟩ = false ∧ w'.cell? ⟨w.heap.size, 1, none⟩ = some (.int .u8 g) ∧ w'.frozen? ⟨w.heap.size, 1, none⟩ = false ∧ w'.cell? ⟨w.heap.size, 2, none⟩ = some (.int .u8 b) ∧ w'.frozen? ⟨w.heap.size, 2, none⟩ = false ∧ w'.cell? ⟨w.heap.size, 3, none⟩ = some (.int .u8 a) ∧ w'.frozen? ⟨w.heap.size, 3, none⟩ = false ∧ w'.cell? ⟨w.heap.size + 1, 0, none⟩ = some (.int .u8 s) ∧ w'.frozen? ⟨w.heap.size + 1, 0, none⟩ = false ∧ w'.cell? ⟨w.heap.size + 1, 1, none⟩ = some (.int .u8 t) ∧ w'.frozen? ⟨w.heap.size + 1, 1, none⟩ = false ∧ w'.cell? ⟨w.heap.size + 1, 2, none⟩ = some (.int .u8 u) ∧ w'.frozen? ⟨w.heap.size + 1, 2, none⟩ = false ∧ w'.cell? ⟨w.heap.size + 1, 3, none⟩ = some (.int .u8 d) ∧ w'.frozen? ⟨w.heap.size + 1, 3, none⟩ = false ∧ Nm w') (fun W => W.cell? ⟨w.heap.size, 0, none⟩ = some (.int .u8 r) ∧ W.frozen? ⟨w.heap.size, 0, none⟩ = false ∧ W.cell? ⟨w.heap.size, 1, none⟩ = some (.int .u8 g) ∧ W.frozen? ⟨w.heap.size, 1, none⟩ = false ∧ W.cell? ⟨w.heap.size, 2, none⟩ = some (.int .u8 b) ∧ W.frozen? ⟨w.heap.size, 2, none⟩ = false ∧ W.cell? ⟨w.heap.size, 3, none⟩ = some (.int .u8 a) ∧ W.frozen? ⟨w.heap.size, 3, none⟩ = false ∧ W.cell? ⟨w.heap.size + 1, 0, none⟩ = some (.int .u8 s) ∧ W.frozen? ⟨w.heap.size + 1, 0, none⟩ = false ∧ W.cell? ⟨w.heap.size + 1, 1, none⟩ = some (.int .u8 t) ∧ W.frozen? ⟨w.heap.size + 1, 1, none⟩ = false ∧ W.cell? ⟨w.heap.size + 1, 2, none⟩ = some (.int .u8 u) ∧ W.frozen? ⟨w.heap.size + 1, 2, none⟩ = false ∧ W.cell? ⟨w.heap.size + 1, 3, none⟩ = some (.int .u8 d) ∧ W.frozen? ⟨w.heap.size + 1, 3, none⟩ = false ∧ Nm W ∧ Below w.heap.size w W ∧ w.heap.size + 1 + 1 ≤ W.heap.size) 13 35 [.val (.int .i64 2), .val (.agg #[.int .u8 r, .int .u8 g, .int .u8 b, .int .u8 a]), .val (.agg #[.int .u8 s, .int .u8 t, .int .u8 u, .int .u8 d]), .call 23 #[.int .i64 2, .agg #[.int .u8 r, .int .u8 g, .int .u8 b, .int .u8 a], .agg #[.int .u8 s, .int .u8 t, .int .u8 u, .int .u8 d]] (.agg #[.int .u8 q0, .int .u8 q1, .int .u8 q2, .int .u8 z]), .val (.int .i64 2), .val (.agg #[.int .u8 s, .int .u8 t, .int .u8 u, .int .u8 d]), .val (.agg #[.int .u8 r, .int .u8 g, .int .u8 b, .int .u8 a]), .call 23 #[.int .i64 2, .agg #[.int .u8 s, .int .u8 t, .int .u8 u, .int .u8 d], .agg #[.int .u8 r, .int .u8 g, .int .u8 b, .int .u8 a]] (.agg #[.int .u8 q0, .int .u8 q1, .int .u8 q2, .int .u8 z]), .val (.bool true), .val (.bool true), .call 20 #[] (.bool true), .val (.bool true), .val (.bool true)] (by kernel_rfl) (by kernel_rfl) rfl (by kernel_rfl) (by rintro w1 w2 ⟨h0, h1, h2, h3, h4, h5, h6, h7, h8, h9, h10, h11, h12, h13, h14, h15, h16⟩ hb; exact ⟨bcs hb h0, bfs hb h0 h1, bcs hb h2, bfs hb h2 h3, bcs hb h4, bfs hb h4 h5, bcs hb h6, bfs hb h6 h7, bcs hb h8, bfs hb h8 h9, bcs hb h10, bfs hb h10 h11, bcs hb h12, bfs hb h12 h13, bcs hb h14, bfs hb h14 h15, Nm.below h16 hb⟩) ⟨by first | with_reducible assumption | go_simp, by first | with_reducible assumption | go_simp, by first | with_reducible assumption | go_simp, by first | with_reducible assumption | go_simp, by first | with_reducible assumption | go_simp, by first | with_reducible assumption | go_simp, by first | with_reducible assumption | go_simp, by first | with_reducible assumption | go_simp, by first | with_reducible assumption | go_simp, by first | with_reducible assumption | go_simp, by first | with_reducible assumption | go_simp, by first | with_reducible assumption | go_simp, by first | with_reducible assumption | go_simp, by first | with_reducible assumption | go_simp, by first | with_reducible assumption | go_simp, by first | with_reducible assumption | go_simp, Nm.below hN (by repeat (first | with_reducible exact Below.refl _ _ | with_reducible exact B2 | with_reducible apply below_drewN | with_reducible apply Below.drew | (with_reducible refine Below.alloc ?_ (by first | (simp; done) | (simp; omega) | omega) _) | (with_reducible refine Below.setCell ?_ (by first | (simp; done) | (simp; omega) | omega) _))), by repeat (first | with_reducible exact Below.refl _ _ | with_reducible exact B2 | with_reducible apply below_drewN | with_reducible apply Below.drew | (with_reducible refine Below.alloc ?_ (by first | (simp; done) | (simp; omega) | omega) _) | (with_reducible refine Below.setCell ?_ (by first | (simp; done) | (simp; omega) | omega) _)), by first | with_reducible assumption | (simp; done) | (simp; omega)⟩ ?_ ?_
    · rintro W ⟨k3_b4_0, g3_b4_0, k3_b4_1, g3_b4_1, k3_b4_2, g3_b4_2, k3_b4_3, g3_b4_3, k3_b5_0, g3_b5_0, k3_b5_1, g3_b5_1, k3_b5_2, g3_b5_2, k3_b5_3, g3_b5_3, e3_0, B3, z3⟩; exact ⟨k3_b4_0, g3_b4_0, k3_b4_1, g3_b4_1, k3_b4_2, g3_b4_2, k3_b4_3, g3_b4_3, k3_b5_0, g3_b5_0, k3_b5_1, g3_b5_1, k3_b5_2, g3_b5_2, k3_b5_3, g3_b5_3, e3_0⟩
    (try clear B2)
    (try clear z2)
    (try clear k2_b4_0)
    (try clear g2_b4_0)
    (try clear k2_b4_1)
    (try clear g2_b4_1)
    (try clear k2_b4_2)
    (try clear g2_b4_2)
    (try clear k2_b4_3)
    (try clear g2_b4_3)
    (try clear k2_b5_0)
    (try clear g2_b5_0)
    (try clear k2_b5_1)
    (try clear g2_b5_1)
    (try clear k2_b5_2)
    (try clear g2_b5_2)
    (try clear k2_b5_3)
    (try clear g2_b5_3)
    (try clear e2_0)
    (try clear q2_b4)
    (try clear x2_b4)
    (try clear y2_b4)
    (try clear q2_b5)
    (try clear x2_b5)
    (try clear y2_b5)
    rintro w3 ⟨k3_b4_0, g3_b4_0, k3_b4_1, g3_b4_1, k3_b4_2, g3_b4_2, k3_b4_3, g3_b4_3, k3_b5_0, g3_b5_0, k3_b5_1, g3_b5_1, k3_b5_2, g3_b5_2, k3_b5_3, g3_b5_3, e3_0, B3, z3⟩ gg
    simp only [List.take_succ_cons, List.take_zero, List.drop_succ_cons, List.drop_zero, List.cons_append, List.nil_append, List.append_nil]
    refine obe_val (by rfl) ?_ ?_
    · clear k3_b4_0 g3_b4_0 k3_b4_1 g3_b4_1 k3_b4_2 g3_b4_2 k3_b4_3 g3_b4_3 k3_b5_0 g3_b5_0 k3_b5_1 g3_b5_1 k3_b5_2 g3_b5_2 k3_b5_3 g3_b5_3 e3_0 B3 z3; intro f hf; have u0 : f 0 = (.int .i64 2) := (by rw [← hf]; rfl); clear hf; rintro w' ⟨h0, h1, h2, h3, h4, h5, h6, h7, h8, h9, h10, h11, h12, h13, h14, h15, h16⟩; go_simp; try exact IntWalk.i64_in _ (by omega)
    refine obe_val (by rfl) ?_ ?_
    · clear k3_b4_0 g3_b4_0 k3_b4_1 g3_b4_1 k3_b4_2 g3_b4_2 k3_b4_3 g3_b4_3 k3_b5_0 g3_b5_0 k3_b5_1 g3_b5_1 k3_b5_2 g3_b5_2 k3_b5_3 g3_b5_3 e3_0 B3 z3; intro f hf; have u4 : f 4 = (.pointer (some ⟨w.heap.size, 0, none⟩)) := (by rw [← hf]; rfl); clear hf; rintro w' ⟨h0, h1, h2, h3, h4, h5, h6, h7, h8, h9, h10, h11, h12, h13, h14, h15, h16⟩; go_simp; try exact IntWalk.i64_in _ (by omega)
    refine obe_val (by rfl) ?_ ?_
    · clear k3_b4_0 g3_b4_0 k3_b4_1 g3_b4_1 k3_b4_2 g3_b4_2 k3_b4_3 g3_b4_3 k3_b5_0 g3_b5_0 k3_b5_1 g3_b5_1 k3_b5_2 g3_b5_2 k3_b5_3 g3_b5_3 e3_0 B3 z3; intro f hf; have u5 : f 5 = (.pointer (some ⟨w.heap.size + 1, 0, none⟩)) := (by rw [← hf]; rfl); clear hf; rintro w' ⟨h0, h1, h2, h3, h4, h5, h6, h7, h8, h9, h10, h11, h12, h13, h14, h15, h16⟩; go_simp; try exact IntWalk.i64_in _ (by omega)
    refine obe_call (by rfl) ?_ ?_ ?_
    · clear k3_b4_0 g3_b4_0 k3_b4_1 g3_b4_1 k3_b4_2 g3_b4_2 k3_b4_3 g3_b4_3 k3_b5_0 g3_b5_0 k3_b5_1 g3_b5_1 k3_b5_2 g3_b5_2 k3_b5_3 g3_b5_3 e3_0 B3 z3; intro f hf; have u22 : f 22 = (.int .i64 2) := (by rw [← hf]; rfl); have u23 : f 23 = (.agg #[.int .u8 r, .int .u8 g, .int .u8 b, .int .u8 a]) := (by rw [← hf]; rfl); have u24 : f 24 = (.agg #[.int .u8 s, .int .u8 t, .int .u8 u, .int .u8 d]) := (by rw [← hf]; rfl); clear hf; intro w' _; simp only [execOp, resolve, invoke, rhoF_tmp, rhoF_func, rhoF_const, u22, u23, u24, List.map_toArray, List.map_cons, List.map_nil]; go_simp
    · clear k3_b4_0 g3_b4_0 k3_b4_1 g3_b4_1 k3_b4_2 g3_b4_2 k3_b4_3 g3_b4_3 k3_b5_0 g3_b5_0 k3_b5_1 g3_b5_1 k3_b5_2 g3_b5_2 k3_b5_3 g3_b5_3 e3_0 B3 z3; rintro w' ⟨h0, h1, h2, h3, h4, h5, h6, h7, h8, h9, h10, h11, h12, h13, h14, h15, h16⟩; exact e1 _
    refine obe_val (by rfl) ?_ ?_
    · clear k3_b4_0 g3_b4_0 k3_b4_1 g3_b4_1 k3_b4_2 g3_b4_2 k3_b4_3 g3_b4_3 k3_b5_0 g3_b5_0 k3_b5_1 g3_b5_1 k3_b5_2 g3_b5_2 k3_b5_3 g3_b5_3 e3_0 B3 z3; intro f hf; have u0 : f 0 = (.int .i64 2) := (by rw [← hf]; rfl); clear hf; rintro w' ⟨h0, h1, h2, h3, h4, h5, h6, h7, h8, h9, h10, h11, h12, h13, h14, h15, h16⟩; go_simp; try exact IntWalk.i64_in _ (by omega)
    refine obe_val (by rfl) ?_ ?_
    · clear k3_b4_0 g3_b4_0 k3_b4_1 g3_b4_1 k3_b4_2 g3_b4_2 k3_b4_3 g3_b4_3 k3_b5_0 g3_b5_0 k3_b5_1 g3_b5_1 k3_b5_2 g3_b5_2 k3_b5_3 g3_b5_3 e3_0 B3 z3; intro f hf; have u5 : f 5 = (.pointer (some ⟨w.heap.size + 1, 0, none⟩)) := (by rw [← hf]; rfl); clear hf; rintro w' ⟨h0, h1, h2, h3, h4, h5, h6, h7, h8, h9, h10, h11, h12, h13, h14, h15, h16⟩; go_simp; try exact IntWalk.i64_in _ (by omega)
    refine obe_val (by rfl) ?_ ?_
    · clear k3_b4_0 g3_b4_0 k3_b4_1 g3_b4_1 k3_b4_2 g3_b4_2 k3_b4_3 g3_b4_3 k3_b5_0 g3_b5_0 k3_b5_1 g3_b5_1 k3_b5_2 g3_b5_2 k3_b5_3 g3_b5_3 e3_0 B3 z3; intro f hf; have u4 : f 4 = (.pointer (some ⟨w.heap.size, 0, none⟩)) := (by rw [← hf]; rfl); clear hf; rintro w' ⟨h0, h1, h2, h3, h4, h5, h6, h7, h8, h9, h10, h11, h12, h13, h14, h15, h16⟩; go_simp; try exact IntWalk.i64_in _ (by omega)
    refine obe_call (by rfl) ?_ ?_ ?_
    · clear k3_b4_0 g3_b4_0 k3_b4_1 g3_b4_1 k3_b4_2 g3_b4_2 k3_b4_3 g3_b4_3 k3_b5_0 g3_b5_0 k3_b5_1 g3_b5_1 k3_b5_2 g3_b5_2 k3_b5_3 g3_b5_3 e3_0 B3 z3; intro f hf; have u26 : f 26 = (.int .i64 2) := (by rw [← hf]; rfl); have u27 : f 27 = (.agg #[.int .u8 s, .int .u8 t, .int .u8 u, .int .u8 d]) := (by rw [← hf]; rfl); have u28 : f 28 = (.agg #[.int .u8 r, .int .u8 g, .int .u8 b, .int .u8 a]) := (by rw [← hf]; rfl); clear hf; intro w' _; simp only [execOp, resolve, invoke, rhoF_tmp, rhoF_func, rhoF_const, u26, u27, u28, List.map_toArray, List.map_cons, List.map_nil]; go_simp
    · clear k3_b4_0 g3_b4_0 k3_b4_1 g3_b4_1 k3_b4_2 g3_b4_2 k3_b4_3 g3_b4_3 k3_b5_0 g3_b5_0 k3_b5_1 g3_b5_1 k3_b5_2 g3_b5_2 k3_b5_3 g3_b5_3 e3_0 B3 z3; rintro w' ⟨h0, h1, h2, h3, h4, h5, h6, h7, h8, h9, h10, h11, h12, h13, h14, h15, h16⟩; exact e2 _
    refine obe_val (by rfl) ?_ ?_
    · clear k3_b4_0 g3_b4_0 k3_b4_1 g3_b4_1 k3_b4_2 g3_b4_2 k3_b4_3 g3_b4_3 k3_b5_0 g3_b5_0 k3_b5_1 g3_b5_1 k3_b5_2 g3_b5_2 k3_b5_3 g3_b5_3 e3_0 B3 z3; intro f hf; have u25 : f 25 = (.agg #[.int .u8 q0, .int .u8 q1, .int .u8 q2, .int .u8 z]) := (by rw [← hf]; rfl); have u29 : f 29 = (.agg #[.int .u8 q0, .int .u8 q1, .int .u8 q2, .int .u8 z]) := (by rw [← hf]; rfl); clear hf; rintro w' ⟨h0, h1, h2, h3, h4, h5, h6, h7, h8, h9, h10, h11, h12, h13, h14, h15, h16⟩; go_simp; try exact IntWalk.i64_in _ (by omega)
    refine obe_val (by rfl) ?_ ?_
    · clear k3_b4_0 g3_b4_0 k3_b4_1 g3_b4_1 k3_b4_2 g3_b4_2 k3_b4_3 g3_b4_3 k3_b5_0 g3_b5_0 k3_b5_1 g3_b5_1 k3_b5_2 g3_b5_2 k3_b5_3 g3_b5_3 e3_0 B3 z3; intro f hf; have u30 : f 30 = (.bool true) := (by rw [← hf]; rfl); clear hf; rintro w' ⟨h0, h1, h2, h3, h4, h5, h6, h7, h8, h9, h10, h11, h12, h13, h14, h15, h16⟩; go_simp; try exact IntWalk.i64_in _ (by omega)
    refine obe_call (by rfl) ?_ ?_ ?_
    · clear k3_b4_0 g3_b4_0 k3_b4_1 g3_b4_1 k3_b4_2 g3_b4_2 k3_b4_3 g3_b4_3 k3_b5_0 g3_b5_0 k3_b5_1 g3_b5_1 k3_b5_2 g3_b5_2 k3_b5_3 g3_b5_3 e3_0 B3 z3; intro f hf; clear hf; intro w' _; simp only [execOp, resolve, invoke, rhoF_tmp, rhoF_func, rhoF_const, List.map_toArray, List.map_cons, List.map_nil]; go_simp
    · clear k3_b4_0 g3_b4_0 k3_b4_1 g3_b4_1 k3_b4_2 g3_b4_2 k3_b4_3 g3_b4_3 k3_b5_0 g3_b5_0 k3_b5_1 g3_b5_1 k3_b5_2 g3_b5_2 k3_b5_3 g3_b5_3 e3_0 B3 z3; rintro w' ⟨h0, h1, h2, h3, h4, h5, h6, h7, h8, h9, h10, h11, h12, h13, h14, h15, h16⟩; exact bex_any _ (by assumption)
    refine obe_val (by rfl) ?_ ?_
    · clear k3_b4_0 g3_b4_0 k3_b4_1 g3_b4_1 k3_b4_2 g3_b4_2 k3_b4_3 g3_b4_3 k3_b5_0 g3_b5_0 k3_b5_1 g3_b5_1 k3_b5_2 g3_b5_2 k3_b5_3 g3_b5_3 e3_0 B3 z3; intro f hf; have u31 : f 31 = (.bool true) := (by rw [← hf]; rfl); have u32 : f 32 = (.bool true) := (by rw [← hf]; rfl); clear hf; rintro w' ⟨h0, h1, h2, h3, h4, h5, h6, h7, h8, h9, h10, h11, h12, h13, h14, h15, h16⟩; go_simp; try exact IntWalk.i64_in _ (by omega)
    refine obe_val (by rfl) ?_ ?_
    · clear k3_b4_0 g3_b4_0 k3_b4_1 g3_b4_1 k3_b4_2 g3_b4_2 k3_b4_3 g3_b4_3 k3_b5_0 g3_b5_0 k3_b5_1 g3_b5_1 k3_b5_2 g3_b5_2 k3_b5_3 g3_b5_3 e3_0 B3 z3; intro f hf; have u33 : f 33 = (.bool true) := (by rw [← hf]; rfl); clear hf; rintro w' ⟨h0, h1, h2, h3, h4, h5, h6, h7, h8, h9, h10, h11, h12, h13, h14, h15, h16⟩; go_simp; try exact IntWalk.i64_in _ (by omega)
    refine obe_nil ?_
    rintro w4 ⟨h0, h1, h2, h3, h4, h5, h6, h7, h8, h9, h10, h11, h12, h13, h14, h15, h16⟩ hb4 hF
    (try simp only [List.nil_append, List.append_nil, List.cons_append] at hF)
    simp only [puts, putD, Act.put, List.setIfInBounds_toArray, List.set_cons_zero, List.set_cons_succ]
    clear hF
    have k4_b4_0 := bcs hb4 k3_b4_0
    have g4_b4_0 := bfs hb4 k3_b4_0 g3_b4_0
    have k4_b4_1 := bcs hb4 k3_b4_1
    have g4_b4_1 := bfs hb4 k3_b4_1 g3_b4_1
    have k4_b4_2 := bcs hb4 k3_b4_2
    have g4_b4_2 := bfs hb4 k3_b4_2 g3_b4_2
    have k4_b4_3 := bcs hb4 k3_b4_3
    have g4_b4_3 := bfs hb4 k3_b4_3 g3_b4_3
    have k4_b5_0 := bcs hb4 k3_b5_0
    have g4_b5_0 := bfs hb4 k3_b5_0 g3_b5_0
    have k4_b5_1 := bcs hb4 k3_b5_1
    have g4_b5_1 := bfs hb4 k3_b5_1 g3_b5_1
    have k4_b5_2 := bcs hb4 k3_b5_2
    have g4_b5_2 := bfs hb4 k3_b5_2 g3_b5_2
    have k4_b5_3 := bcs hb4 k3_b5_3
    have g4_b5_3 := bfs hb4 k3_b5_3 g3_b5_3
    clear h0 h1 h2 h3 h4 h5 h6 h7 h8 h9 h10 h11 h12 h13 h14 h15 h16
    have B4 := bel_step B3 hb4
    have z4 := Nat.le_trans z3 hb4.size
    have e4_0 := Nm.below hN B4
    clear hb4
    (try clear B3)
    (try clear z3)
    (try clear k3_b4_0)
    (try clear g3_b4_0)
    (try clear k3_b4_1)
    (try clear g3_b4_1)
    (try clear k3_b4_2)
    (try clear g3_b4_2)
    (try clear k3_b4_3)
    (try clear g3_b4_3)
    (try clear k3_b5_0)
    (try clear g3_b5_0)
    (try clear k3_b5_1)
    (try clear g3_b5_1)
    (try clear k3_b5_2)
    (try clear g3_b5_2)
    (try clear k3_b5_3)
    (try clear g3_b5_3)
    (try clear e3_0)
    (try clear q3_b4)
    (try clear x3_b4)
    (try clear y3_b4)
    (try clear q3_b5)
    (try clear x3_b5)
    (try clear y3_b5)
    have q4_b4 : w.heap.size < w4.heap.size := qlt k4_b4_0
    have x4_b4 : ¬ w.heap.size = w4.heap.size := qne k4_b4_0
    have y4_b4 : ¬ w4.heap.size = w.heap.size := fun h => qne k4_b4_0 h.symm
    have q4_b5 : w.heap.size + 1 < w4.heap.size := qlt k4_b5_0
    have x4_b5 : ¬ w.heap.size + 1 = w4.heap.size := qne k4_b5_0
    have y4_b5 : ¬ w4.heap.size = w.heap.size + 1 := fun h => qne k4_b5_0 h.symm
    unfold wpList
    go_wp2
    go_ret
    refine ⟨rfl, ?_⟩
    repeat (first | with_reducible exact Below.refl _ _ | with_reducible exact B4 | with_reducible apply below_drewN | with_reducible apply Below.drew | (with_reducible refine Below.alloc ?_ (by first | (simp; done) | (simp; omega) | omega) _) | (with_reducible refine Below.setCell ?_ (by first | (simp; done) | (simp; omega) | omega) _))
  have n2 : (m == 2) = false := by simpa using k2
  clear k2
  by_cases k3 : m = 3
  · subst k3
    have e1 := fun w => blend_any 3 r g b a s t u d (by omega) (by omega) r0 r1 g0 g1 b0 b1 a0 a1 s0 s1 t0 t1 u0 u1 d0 d1 w
    have e2 := fun w => blend_any 3 s t u d r g b a (by omega) (by omega) s0 s1 t0 t1 u0 u1 d0 d1 r0 r1 g0 g1 b0 b1 a0 a1 w
    rw [bc_comm 3 (min r a) a (min s d) d (by omega), bc_comm 3 (min g a) a (min t d) d (by omega), bc_comm 3 (min b a) a (min u d) d (by omega), al_comm, hz] at e2
    rw [hz] at e1
    clear hz
    obtain ⟨q0, hq0⟩ : ∃ x, bc 3 (min r a) a (min s d) d = x := ⟨_, rfl⟩
    obtain ⟨q1, hq1⟩ : ∃ x, bc 3 (min g a) a (min t d) d = x := ⟨_, rfl⟩
    obtain ⟨q2, hq2⟩ : ∃ x, bc 3 (min b a) a (min u d) d = x := ⟨_, rfl⟩
    rw [hq0, hq1, hq2] at e1 e2
    clear hq0 hq1 hq2
    go_enter Tryd.func8, Tryd.ntmps8
    go_wp2
    refine wp_region_env (fun w' => w'.cell? ⟨w.heap.size, 0, none⟩ = some (.int .u8 r) ∧ w'.frozen? ⟨w.heap.size, 0, none⟩ = false ∧ w'.cell? ⟨w.heap.size, 1, none⟩ = some (.int .u8 g) ∧ w'.frozen? ⟨w.heap.size, 1, none⟩ = false ∧ w'.cell? ⟨w.heap.size, 2, none⟩ = some (.int .u8 b) ∧ w'.frozen? ⟨w.heap.size, 2, none⟩ = false ∧ w'.cell? ⟨w.heap.size, 3, none⟩ = some (.int .u8 a) ∧ w'.frozen? ⟨w.heap.size, 3, none⟩ = false ∧ w'.cell? ⟨w.heap.size + 1, 0, none⟩ = some (.int .u8 s) ∧ w'.frozen? ⟨w.heap.size + 1, 0, none⟩ = false ∧ w'.cell? ⟨w.heap.size + 1, 1, none⟩ = some (.int .u8 t) ∧ w'.frozen? ⟨w.heap.size + 1, 1, none⟩ = false ∧ w'.cell? ⟨w.heap.size + 1, 2, none⟩ = some (.int .u8 u) ∧ w'.frozen? ⟨w.heap.size + 1, 2, none⟩ = false ∧ w'.cell? ⟨w.heap.size + 1, 3, none⟩ = some (.int .u8 d) ∧ w'.frozen? ⟨w.heap.size + 1, 3, none⟩ = false ∧ Nm w') (fun W => W.cell? ⟨w.heap.size, 0, none⟩ = some (.int .u8 r) ∧ W.frozen? ⟨w.heap.size, 0, none⟩ = false ∧ W.cell? ⟨w.heap.size, 1, none⟩ = some (.int .u8 g) ∧ W.frozen? ⟨w.heap.size, 1, none⟩ = false ∧ W.cell? ⟨w.heap.size, 2, none⟩ = some (.int .u8 b) ∧ W.frozen? ⟨w.heap.size, 2, none⟩ = false ∧ W.cell? ⟨w.heap.size, 3, none⟩ = some (.int .u8 a) ∧ W.frozen? ⟨w.heap.size, 3, none⟩ = false ∧ W.cell? ⟨w.heap.size + 1, 0, none⟩ = some (.int .u8 s) ∧ W.frozen? ⟨w.heap.size + 1, 0, none⟩ = false ∧ W.cell? ⟨w.heap.size + 1, 1, none⟩ = some (.int .u8 t) ∧ W.frozen? ⟨w.heap.size + 1, 1, none⟩ = false ∧ W.cell? ⟨w.heap.size + 1, 2, none⟩ = some (.int .u8 u) ∧ W.frozen? ⟨w.heap.size + 1, 2, none⟩ = false ∧ W.cell? ⟨w.heap.size + 1, 3, none⟩ = some (.int .u8 d) ∧ W.frozen? ⟨w.heap.size + 1, 3, none⟩ = false ∧ Nm W ∧ Below w.heap.size w W ∧ w.heap.size + 1 + 1 ≤ W.heap.size) 7 35 [.val (.agg #[.int .u8 r, .int .u8 g, .int .u8 b, .int .u8 a]), .val (.agg #[.int .u8 s, .int .u8 t, .int .u8 u, .int .u8 d]), .call 23 #[.int .i64 9, .agg #[.int .u8 r, .int .u8 g, .int .u8 b, .int .u8 a], .agg #[.int .u8 s, .int .u8 t, .int .u8 u, .int .u8 d]] (.agg #[.int .u8 y0, .int .u8 y1, .int .u8 y2, .int .u8 z]), .val (.agg #[.int .u8 s, .int .u8 t, .int .u8 u, .int .u8 d]), .val (.agg #[.int .u8 r, .int .u8 g, .int .u8 b, .int .u8 a]), .call 23 #[.int .i64 4, .agg #[.int .u8 s, .int .u8 t, .int .u8 u, .int .u8 d], .agg #[.int .u8 r, .int .u8 g, .int .u8 b, .int .u8 a]] (.agg #[.int .u8 y0, .int .u8 y1, .int .u8 y2, .int .u8 z]), .val (.bool false)] (by kernel_rfl) (by kernel_rfl) rfl (by kernel_rfl) (by rintro w1 w2 ⟨h0, h1, h2, h3, h4, h5, h6, h7, h8, h9, h10, h11, h12, h13, h14, h15, h16⟩ hb; exact ⟨bcs hb h0, bfs hb h0 h1, bcs hb h2, bfs hb h2 h3, bcs hb h4, bfs hb h4 h5, bcs hb h6, bfs hb h6 h7, bcs hb h8, bfs hb h8 h9, bcs hb h10, bfs hb h10 h11, bcs hb h12, bfs hb h12 h13, bcs hb h14, bfs hb h14 h15, Nm.below h16 hb⟩) ⟨by first | with_reducible assumption | go_simp, by first | with_reducible assumption | go_simp, by first | with_reducible assumption | go_simp, by first | with_reducible assumption | go_simp, by first | with_reducible assumption | go_simp, by first | with_reducible assumption | go_simp, by first | with_reducible assumption | go_simp, by first | with_reducible assumption | go_simp, by first | with_reducible assumption | go_simp, by first | with_reducible assumption | go_simp, by first | with_reducible assumption | go_simp, by first | with_reducible assumption | go_simp, by first | with_reducible assumption | go_simp, by first | with_reducible assumption | go_simp, by first | with_reducible assumption | go_simp, by first | with_reducible assumption | go_simp, Nm.below hN (by repeat (first | with_reducible exact Below.refl _ _ | fail | with_reducible apply below_drewN | with_reducible apply Below.drew | (with_reducible refine Below.alloc ?_ (by first | (simp; done) | (simp; omega) | omega) _) | (with_reducible refine Below.setCell ?_ (by first | (simp; done) | (simp; omega) | omega) _))), by repeat (first | with_reducible exact Below.refl _ _ | fail | with_reducible apply below_drewN | with_reducible apply Below.drew | (with_reducible refine Below.alloc ?_ (by first | (simp; done) | (simp; omega) | omega) _) | (with_reducible refine Below.setCell ?_ (by first | (simp; done) | (simp; omega) | omega) _)), by first | with_reducible assumption | (simp; done) | (simp; omega)⟩ ?_ ?_
    · rintro W ⟨k1_b4_0, g1_b4_0, k1_b4_1, g1_b4_1, k1_b4_2, g1_b4_2, k1_b4_3, g1_b4_3, k1_b5_0, g1_b5_0, k1_b5_1, g1_b5_1, k1_b5_2, g1_b5_2, k1_b5_3, g1_b5_3, e1_0, B1, z1⟩; exact ⟨k1_b4_0, g1_b4_0, k1_b4_1, g1_b4_1, k1_b4_2, g1_b4_2, k1_b4_3, g1_b4_3, k1_b5_0, g1_b5_0, k1_b5_1, g1_b5_1, k1_b5_2, g1_b5_2, k1_b5_3, g1_b5_3, e1_0⟩
    rintro w1 ⟨k1_b4_0, g1_b4_0, k1_b4_1, g1_b4_1, k1_b4_2, g1_b4_2, k1_b4_3, g1_b4_3, k1_b5_0, g1_b5_0, k1_b5_1, g1_b5_1, k1_b5_2, g1_b5_2, k1_b5_3, g1_b5_3, e1_0, B1, z1⟩ gg
    simp only [List.take_succ_cons, List.take_zero, List.drop_succ_cons, List.drop_zero, List.cons_append, List.nil_append, List.append_nil]
    refine obe_val (by rfl) ?_ ?_
    · clear k1_b4_0 g1_b4_0 k1_b4_1 g1_b4_1 k1_b4_2 g1_b4_2 k1_b4_3 g1_b4_3 k1_b5_0 g1_b5_0 k1_b5_1 g1_b5_1 k1_b5_2 g1_b5_2 k1_b5_3 g1_b5_3 e1_0 B1 z1; intro f hf; have u4 : f 4 = (.pointer (some ⟨w.heap.size, 0, none⟩)) := (by rw [← hf]; rfl); clear hf; rintro w' ⟨h0, h1, h2, h3, h4, h5, h6, h7, h8, h9, h10, h11, h12, h13, h14, h15, h16⟩; go_simp; try exact IntWalk.i64_in _ (by omega)
    refine obe_val (by rfl) ?_ ?_
    · clear k1_b4_0 g1_b4_0 k1_b4_1 g1_b4_1 k1_b4_2 g1_b4_2 k1_b4_3 g1_b4_3 k1_b5_0 g1_b5_0 k1_b5_1 g1_b5_1 k1_b5_2 g1_b5_2 k1_b5_3 g1_b5_3 e1_0 B1 z1; intro f hf; have u5 : f 5 = (.pointer (some ⟨w.heap.size + 1, 0, none⟩)) := (by rw [← hf]; rfl); clear hf; rintro w' ⟨h0, h1, h2, h3, h4, h5, h6, h7, h8, h9, h10, h11, h12, h13, h14, h15, h16⟩; go_simp; try exact IntWalk.i64_in _ (by omega)
    refine obe_call (by rfl) ?_ ?_ ?_
    · clear k1_b4_0 g1_b4_0 k1_b4_1 g1_b4_1 k1_b4_2 g1_b4_2 k1_b4_3 g1_b4_3 k1_b5_0 g1_b5_0 k1_b5_1 g1_b5_1 k1_b5_2 g1_b5_2 k1_b5_3 g1_b5_3 e1_0 B1 z1; intro f hf; have u7 : f 7 = (.agg #[.int .u8 r, .int .u8 g, .int .u8 b, .int .u8 a]) := (by rw [← hf]; rfl); have u8 : f 8 = (.agg #[.int .u8 s, .int .u8 t, .int .u8 u, .int .u8 d]) := (by rw [← hf]; rfl); clear hf; intro w' _; simp only [execOp, resolve, invoke, rhoF_tmp, rhoF_func, rhoF_const, u7, u8, List.map_toArray, List.map_cons, List.map_nil]; go_simp
    · clear k1_b4_0 g1_b4_0 k1_b4_1 g1_b4_1 k1_b4_2 g1_b4_2 k1_b4_3 g1_b4_3 k1_b5_0 g1_b5_0 k1_b5_1 g1_b5_1 k1_b5_2 g1_b5_2 k1_b5_3 g1_b5_3 e1_0 B1 z1; rintro w' ⟨h0, h1, h2, h3, h4, h5, h6, h7, h8, h9, h10, h11, h12, h13, h14, h15, h16⟩; exact c9 _
    refine obe_val (by rfl) ?_ ?_
    · clear k1_b4_0 g1_b4_0 k1_b4_1 g1_b4_1 k1_b4_2 g1_b4_2 k1_b4_3 g1_b4_3 k1_b5_0 g1_b5_0 k1_b5_1 g1_b5_1 k1_b5_2 g1_b5_2 k1_b5_3 g1_b5_3 e1_0 B1 z1; intro f hf; have u5 : f 5 = (.pointer (some ⟨w.heap.size + 1, 0, none⟩)) := (by rw [← hf]; rfl); clear hf; rintro w' ⟨h0, h1, h2, h3, h4, h5, h6, h7, h8, h9, h10, h11, h12, h13, h14, h15, h16⟩; go_simp; try exact IntWalk.i64_in _ (by omega)
    refine obe_val (by rfl) ?_ ?_
    · clear k1_b4_0 g1_b4_0 k1_b4_1 g1_b4_1 k1_b4_2 g1_b4_2 k1_b4_3 g1_b4_3 k1_b5_0 g1_b5_0 k1_b5_1 g1_b5_1 k1_b5_2 g1_b5_2 k1_b5_3 g1_b5_3 e1_0 B1 z1; intro f hf; have u4 : f 4 = (.pointer (some ⟨w.heap.size, 0, none⟩)) := (by rw [← hf]; rfl); clear hf; rintro w' ⟨h0, h1, h2, h3, h4, h5, h6, h7, h8, h9, h10, h11, h12, h13, h14, h15, h16⟩; go_simp; try exact IntWalk.i64_in _ (by omega)
    refine obe_call (by rfl) ?_ ?_ ?_
    · clear k1_b4_0 g1_b4_0 k1_b4_1 g1_b4_1 k1_b4_2 g1_b4_2 k1_b4_3 g1_b4_3 k1_b5_0 g1_b5_0 k1_b5_1 g1_b5_1 k1_b5_2 g1_b5_2 k1_b5_3 g1_b5_3 e1_0 B1 z1; intro f hf; have u10 : f 10 = (.agg #[.int .u8 s, .int .u8 t, .int .u8 u, .int .u8 d]) := (by rw [← hf]; rfl); have u11 : f 11 = (.agg #[.int .u8 r, .int .u8 g, .int .u8 b, .int .u8 a]) := (by rw [← hf]; rfl); clear hf; intro w' _; simp only [execOp, resolve, invoke, rhoF_tmp, rhoF_func, rhoF_const, u10, u11, List.map_toArray, List.map_cons, List.map_nil]; go_simp
    · clear k1_b4_0 g1_b4_0 k1_b4_1 g1_b4_1 k1_b4_2 g1_b4_2 k1_b4_3 g1_b4_3 k1_b5_0 g1_b5_0 k1_b5_1 g1_b5_1 k1_b5_2 g1_b5_2 k1_b5_3 g1_b5_3 e1_0 B1 z1; rintro w' ⟨h0, h1, h2, h3, h4, h5, h6, h7, h8, h9, h10, h11, h12, h13, h14, h15, h16⟩; exact c4 _
    refine obe_val (by rfl) ?_ ?_
    · clear k1_b4_0 g1_b4_0 k1_b4_1 g1_b4_1 k1_b4_2 g1_b4_2 k1_b4_3 g1_b4_3 k1_b5_0 g1_b5_0 k1_b5_1 g1_b5_1 k1_b5_2 g1_b5_2 k1_b5_3 g1_b5_3 e1_0 B1 z1; intro f hf; have u9 : f 9 = (.agg #[.int .u8 y0, .int .u8 y1, .int .u8 y2, .int .u8 z]) := (by rw [← hf]; rfl); have u12 : f 12 = (.agg #[.int .u8 y0, .int .u8 y1, .int .u8 y2, .int .u8 z]) := (by rw [← hf]; rfl); clear hf; rintro w' ⟨h0, h1, h2, h3, h4, h5, h6, h7, h8, h9, h10, h11, h12, h13, h14, h15, h16⟩; go_simp; try exact IntWalk.i64_in _ (by omega)
    refine obe_nil ?_
    rintro w2 ⟨h0, h1, h2, h3, h4, h5, h6, h7, h8, h9, h10, h11, h12, h13, h14, h15, h16⟩ hb2 hF
    (try simp only [List.nil_append, List.append_nil, List.cons_append] at hF)
    simp only [puts, putD, Act.put, List.setIfInBounds_toArray, List.set_cons_zero, List.set_cons_succ]
    clear hF
    have k2_b4_0 := bcs hb2 k1_b4_0
    have g2_b4_0 := bfs hb2 k1_b4_0 g1_b4_0
    have k2_b4_1 := bcs hb2 k1_b4_1
    have g2_b4_1 := bfs hb2 k1_b4_1 g1_b4_1
    have k2_b4_2 := bcs hb2 k1_b4_2
    have g2_b4_2 := bfs hb2 k1_b4_2 g1_b4_2
    have k2_b4_3 := bcs hb2 k1_b4_3
    have g2_b4_3 := bfs hb2 k1_b4_3 g1_b4_3
    have k2_b5_0 := bcs hb2 k1_b5_0
    have g2_b5_0 := bfs hb2 k1_b5_0 g1_b5_0
    have k2_b5_1 := bcs hb2 k1_b5_1
    have g2_b5_1 := bfs hb2 k1_b5_1 g1_b5_1
    have k2_b5_2 := bcs hb2 k1_b5_2
    have g2_b5_2 := bfs hb2 k1_b5_2 g1_b5_2
    have k2_b5_3 := bcs hb2 k1_b5_3
    have g2_b5_3 := bfs hb2 k1_b5_3 g1_b5_3
    clear h0 h1 h2 h3 h4 h5 h6 h7 h8 h9 h10 h11 h12 h13 h14 h15 h16
    have B2 := bel_step B1 hb2
    have z2 := Nat.le_trans z1 hb2.size
    have e2_0 := Nm.below hN B2
    clear hb2
    (try clear B1)
    (try clear z1)
    (try clear k1_b4_0)
    (try clear g1_b4_0)
    (try clear k1_b4_1)
    (try clear g1_b4_1)
    (try clear k1_b4_2)
    (try clear g1_b4_2)
    (try clear k1_b4_3)
    (try clear g1_b4_3)
    (try clear k1_b5_0)
    (try clear g1_b5_0)
    (try clear k1_b5_1)
    (try clear g1_b5_1)
    (try clear k1_b5_2)
    (try clear g1_b5_2)
    (try clear k1_b5_3)
    (try clear g1_b5_3)
    (try clear e1_0)
    (try clear q1_b4)
    (try clear x1_b4)
    (try clear y1_b4)
    (try clear q1_b5)
    (try clear x1_b5)
    (try clear y1_b5)
    have q2_b4 : w.heap.size < w2.heap.size := qlt k2_b4_0
    have x2_b4 : ¬ w.heap.size = w2.heap.size := qne k2_b4_0
    have y2_b4 : ¬ w2.heap.size = w.heap.size := fun h => qne k2_b4_0 h.symm
    have q2_b5 : w.heap.size + 1 < w2.heap.size := qlt k2_b5_0
    have x2_b5 : ¬ w.heap.size + 1 = w2.heap.size := qne k2_b5_0
    have y2_b5 : ¬ w2.heap.size = w.heap.size + 1 := fun h => qne k2_b5_0 h.symm
    unfold wpList
    go_wp2
    refine wp_region_env (fun w' => w'.cell? ⟨w.heap.size, 0, none⟩ = some (.int .u8 r) ∧ w'.frozen? ⟨w.heap.size, 0, none⟩ = false ∧ w'.cell? ⟨w.heap.size, 1, none⟩ = some (.int .u8 g) ∧ w'.frozen? ⟨w.heap.size, 1, none⟩ = false ∧ w'.cell? ⟨w.heap.size, 2, none⟩ = some (.int .u8 b) ∧ w'.frozen? ⟨w.heap.size, 2, none⟩ = false ∧ w'.cell? ⟨w.heap.size, 3, none⟩ = some (.int .u8 a) ∧ w'.frozen? ⟨w.heap.size, 3, none⟩ = false ∧ w'.cell? ⟨w.heap.size + 1, 0, none⟩ = some (.int .u8 s) ∧ w'.frozen? ⟨w.heap.size + 1, 0, none⟩ = false ∧ w'.cell? ⟨w.heap.size + 1, 1, none⟩ = some (.int .u8 t) ∧ w'.frozen? ⟨w.heap.size + 1, 1, none⟩ = false ∧ w'.cell? ⟨w.heap.size + 1, 2, none⟩ = some (.int .u8 u) ∧ w'.frozen? ⟨w.heap.size + 1, 2, none⟩ = false ∧ w'.cell? ⟨w.heap.size + 1, 3, none⟩ = some (.int .u8 d) ∧ w'.frozen? ⟨w.heap.size + 1, 3, none⟩ = false ∧ Nm w') (fun W => W.cell? ⟨w.heap.size, 0, none⟩ = some (.int .u8 r) ∧ W.frozen? ⟨w.heap.size, 0, none⟩ = false ∧ W.cell? ⟨w.heap.size, 1, none⟩ = some (.int .u8 g) ∧ W.frozen? ⟨w.heap.size, 1, none⟩ = false ∧ W.cell? ⟨w.heap.size, 2, none⟩ = some (.int .u8 b) ∧ W.frozen? ⟨w.heap.size, 2, none⟩ = false ∧ W.cell? ⟨w.heap.size, 3, none⟩ = some (.int .u8 a) ∧ W.frozen? ⟨w.heap.size, 3, none⟩ = false ∧ W.cell? ⟨w.heap.size + 1, 0, none⟩ = some (.int .u8 s) ∧ W.frozen? ⟨w.heap.size + 1, 0, none⟩ = false ∧ W.cell? ⟨w.heap.size + 1, 1, none⟩ = some (.int .u8 t) ∧ W.frozen? ⟨w.heap.size + 1, 1, none⟩ = false ∧ W.cell? ⟨w.heap.size + 1, 2, none⟩ = some (.int .u8 u) ∧ W.frozen? ⟨w.heap.size + 1, 2, none⟩ = false ∧ W.cell? ⟨w.heap.size + 1, 3, none⟩ = some (.int .u8 d) ∧ W.frozen? ⟨w.heap.size + 1, 3, none⟩ = false ∧ Nm W ∧ Below w.heap.size w W ∧ w.heap.size + 1 + 1 ≤ W.heap.size) 13 35 [.val (.int .i64 3), .val (.agg #[.int .u8 r, .int .u8 g, .int .u8 b, .int .u8 a]), .val (.agg #[.int .u8 s, .int .u8 t, .int .u8 u, .int .u8 d]), .call 23 #[.int .i64 3, .agg #[.int .u8 r, .int .u8 g, .int .u8 b, .int .u8 a], .agg #[.int .u8 s, .int .u8 t, .int .u8 u, .int .u8 d]] (.agg #[.int .u8 q0, .int .u8 q1, .int .u8 q2, .int .u8 z]), .val (.int .i64 3), .val (.agg #[.int .u8 s, .int .u8 t, .int .u8 u, .int .u8 d]), .val (.agg #[.int .u8 r, .int .u8 g, .int .u8 b, .int .u8 a]), .call 23 #[.int .i64 3, .agg #[.int .u8 s, .int .u8 t, .int .u8 u, .int .u8 d], .agg #[.int .u8 r, .int .u8 g, .int .u8 b, .int .u8 a]] (.agg #[.int .u8 q0, .int .u8 q1, .int .u8 q2, .int .u8 z]), .val (.bool true), .val (.bool true), .call 20 #[] (.bool true), .val (.bool true), .val (.bool true)] (by kernel_rfl) (by kernel_rfl) rfl (by kernel_rfl) (by rintro w1 w2 ⟨h0, h1, h2, h3, h4, h5, h6, h7, h8, h9, h10, h11, h12, h13, h14, h15, h16⟩ hb; exact ⟨bcs hb h0, bfs hb h0 h1, bcs hb h2, bfs hb h2 h3, bcs hb h4, bfs hb h4 h5, bcs hb h6, bfs hb h6 h7, bcs hb h8, bfs hb h8 h9, bcs hb h10, bfs hb h10 h11, bcs hb h12, bfs hb h12 h13, bcs hb h14, bfs hb h14 h15, Nm.below h16 hb⟩) ⟨by first | with_reducible assumption | go_simp, by first | with_reducible assumption | go_simp, by first | with_reducible assumption | go_simp, by first | with_reducible assumption | go_simp, by first | with_reducible assumption | go_simp, by first | with_reducible assumption | go_simp, by first | with_reducible assumption | go_simp, by first | with_reducible assumption | go_simp, by first | with_reducible assumption | go_simp, by first | with_reducible assumption | go_simp, by first | with_reducible assumption | go_simp, by first | with_reducible assumption | go_simp, by first | with_reducible assumption | go_simp, by first | with_reducible assumption | go_simp, by first | with_reducible assumption | go_simp, by first | with_reducible assumption | go_simp, Nm.below hN (by repeat (first | with_reducible exact Below.refl _ _ | with_reducible exact B2 | with_reducible apply below_drewN | with_reducible apply Below.drew | (with_reducible refine Below.alloc ?_ (by first | (simp; done) | (simp; omega) | omega) _) | (with_reducible refine Below.setCell ?_ (by first | (simp; done) | (simp; omega) | omega) _))), by repeat (first | with_reducible exact Below.refl _ _ | with_reducible exact B2 | with_reducible apply below_drewN | with_reducible apply Below.drew | (with_reducible refine Below.alloc ?_ (by first | (simp; done) | (simp; omega) | omega) _) | (with_reducible refine Below.setCell ?_ (by first | (simp; done) | (simp; omega) | omega) _)), by first | with_reducible assumption | (simp; done) | (simp; omega)⟩ ?_ ?_
    · rintro W ⟨k3_b4_0, g3_b4_0, k3_b4_1, g3_b4_1, k3_b4_2, g3_b4_2, k3_b4_3, g3_b4_3, k3_b5_0, g3_b5_0, k3_b5_1, g3_b5_1, k3_b5_2, g3_b5_2, k3_b5_3, g3_b5_3, e3_0, B3, z3⟩; exact ⟨k3_b4_0, g3_b4_0, k3_b4_1, g3_b4_1, k3_b4_2, g3_b4_2, k3_b4_3, g3_b4_3, k3_b5_0, g3_b5_0, k3_b5_1, g3_b5_1, k3_b5_2, g3_b5_2, k3_b5_3, g3_b5_3, e3_0⟩
    (try clear B2)
    (try clear z2)
    (try clear k2_b4_0)
    (try clear g2_b4_0)
    (try clear k2_b4_1)
    (try clear g2_b4_1)
    (try clear k2_b4_2)
    (try clear g2_b4_2)
    (try clear k2_b4_3)
    (try clear g2_b4_3)
    (try clear k2_b5_0)
    (try clear g2_b5_0)
    (try clear k2_b5_1)
    (try clear g2_b5_1)
    (try clear k2_b5_2)
    (try clear g2_b5_2)
    (try clear k2_b5_3)
    (try clear g2_b5_3)
    (try clear e2_0)
    (try clear q2_b4)
    (try clear x2_b4)
    (try clear y2_b4)
    (try clear q2_b5)
    (try clear x2_b5)
    (try clear y2_b5)
    rintro w3 ⟨k3_b4_0, g3_b4_0, k3_b4_1, g3_b4_1, k3_b4_2, g3_b4_2, k3_b4_3, g3_b4_3, k3_b5_0, g3_b5_0, k3_b5_1, g3_b5_1, k3_b5_2, g3_b5_2, k3_b5_3, g3_b5_3, e3_0, B3, z3⟩ gg
    simp only [List.take_succ_cons, List.take_zero, List.drop_succ_cons, List.drop_zero, List.cons_append, List.nil_append, List.append_nil]
    refine obe_val (by rfl) ?_ ?_
    · clear k3_b4_0 g3_b4_0 k3_b4_1 g3_b4_1 k3_b4_2 g3_b4_2 k3_b4_3 g3_b4_3 k3_b5_0 g3_b5_0 k3_b5_1 g3_b5_1 k3_b5_2 g3_b5_2 k3_b5_3 g3_b5_3 e3_0 B3 z3; intro f hf; have u0 : f 0 = (.int .i64 3) := (by rw [← hf]; rfl); clear hf; rintro w' ⟨h0, h1, h2, h3, h4, h5, h6, h7, h8, h9, h10, h11, h12, h13, h14, h15, h16⟩; go_simp; try exact IntWalk.i64_in _ (by omega)
    refine obe_val (by rfl) ?_ ?_
    · clear k3_b4_0 g3_b4_0 k3_b4_1 g3_b4_1 k3_b4_2 g3_b4_2 k3_b4_3 g3_b4_3 k3_b5_0 g3_b5_0 k3_b5_1 g3_b5_1 k3_b5_2 g3_b5_2 k3_b5_3 g3_b5_3 e3_0 B3 z3; intro f hf; have u4 : f 4 = (.pointer (some ⟨w.heap.size, 0, none⟩)) := (by rw [← hf]; rfl); clear hf; rintro w' ⟨h0, h1, h2, h3, h4, h5, h6, h7, h8, h9, h10, h11, h12, h13, h14, h15, h16⟩; go_simp; try exact IntWalk.i64_in _ (by omega)
    refine obe_val (by rfl) ?_ ?_
    · clear k3_b4_0 g3_b4_0 k3_b4_1 g3_b4_1 k3_b4_2 g3_b4_2 k3_b4_3 g3_b4_3 k3_b5_0 g3_b5_0 k3_b5_1 g3_b5_1 k3_b5_2 g3_b5_2 k3_b5_3 g3_b5_3 e3_0 B3 z3; intro f hf; have u5 : f 5 = (.pointer (some ⟨w.heap.size + 1, 0, none⟩)) := (by rw [← hf]; rfl); clear hf; rintro w' ⟨h0, h1, h2, h3, h4, h5, h6, h7, h8, h9, h10, h11, h12, h13, h14, h15, h16⟩; go_simp; try exact IntWalk.i64_in _ (by omega)
    refine obe_call (by rfl) ?_ ?_ ?_
    · clear k3_b4_0 g3_b4_0 k3_b4_1 g3_b4_1 k3_b4_2 g3_b4_2 k3_b4_3 g3_b4_3 k3_b5_0 g3_b5_0 k3_b5_1 g3_b5_1 k3_b5_2 g3_b5_2 k3_b5_3 g3_b5_3 e3_0 B3 z3; intro f hf; have u22 : f 22 = (.int .i64 3) := (by rw [← hf]; rfl); have u23 : f 23 = (.agg #[.int .u8 r, .int .u8 g, .int .u8 b, .int .u8 a]) := (by rw [← hf]; rfl); have u24 : f 24 = (.agg #[.int .u8 s, .int .u8 t, .int .u8 u, .int .u8 d]) := (by rw [← hf]; rfl); clear hf; intro w' _; simp only [execOp, resolve, invoke, rhoF_tmp, rhoF_func, rhoF_const, u22, u23, u24, List.map_toArray, List.map_cons, List.map_nil]; go_simp
    · clear k3_b4_0 g3_b4_0 k3_b4_1 g3_b4_1 k3_b4_2 g3_b4_2 k3_b4_3 g3_b4_3 k3_b5_0 g3_b5_0 k3_b5_1 g3_b5_1 k3_b5_2 g3_b5_2 k3_b5_3 g3_b5_3 e3_0 B3 z3; rintro w' ⟨h0, h1, h2, h3, h4, h5, h6, h7, h8, h9, h10, h11, h12, h13, h14, h15, h16⟩; exact e1 _
    refine obe_val (by rfl) ?_ ?_
    · clear k3_b4_0 g3_b4_0 k3_b4_1 g3_b4_1 k3_b4_2 g3_b4_2 k3_b4_3 g3_b4_3 k3_b5_0 g3_b5_0 k3_b5_1 g3_b5_1 k3_b5_2 g3_b5_2 k3_b5_3 g3_b5_3 e3_0 B3 z3; intro f hf; have u0 : f 0 = (.int .i64 3) := (by rw [← hf]; rfl); clear hf; rintro w' ⟨h0, h1, h2, h3, h4, h5, h6, h7, h8, h9, h10, h11, h12, h13, h14, h15, h16⟩; go_simp; try exact IntWalk.i64_in _ (by omega)
    refine obe_val (by rfl) ?_ ?_
    · clear k3_b4_0 g3_b4_0 k3_b4_1 g3_b4_1 k3_b4_2 g3_b4_2 k3_b4_3 g3_b4_3 k3_b5_0 g3_b5_0 k3_b5_1 g3_b5_1 k3_b5_2 g3_b5_2 k3_b5_3 g3_b5_3 e3_0 B3 z3; intro f hf; have u5 : f 5 = (.pointer (some ⟨w.heap.size + 1, 0, none⟩)) := (by rw [← hf]; rfl); clear hf; rintro w' ⟨h0, h1, h2, h3, h4, h5, h6, h7, h8, h9, h10, h11, h12, h13, h14, h15, h16⟩; go_simp; try exact IntWalk.i64_in _ (by omega)
    refine obe_val (by rfl) ?_ ?_
    · clear k3_b4_0 g3_b4_0 k3_b4_1 g3_b4_1 k3_b4_2 g3_b4_2 k3_b4_3 g3_b4_3 k3_b5_0 g3_b5_0 k3_b5_1 g3_b5_1 k3_b5_2 g3_b5_2 k3_b5_3 g3_b5_3 e3_0 B3 z3; intro f hf; have u4 : f 4 = (.pointer (some ⟨w.heap.size, 0, none⟩)) := (by rw [← hf]; rfl); clear hf; rintro w' ⟨h0, h1, h2, h3, h4, h5, h6, h7, h8, h9, h10, h11, h12, h13, h14, h15, h16⟩; go_simp; try exact IntWalk.i64_in _ (by omega)
    refine obe_call (by rfl) ?_ ?_ ?_
    · clear k3_b4_0 g3_b4_0 k3_b4_1 g3_b4_1 k3_b4_2 g3_b4_2 k3_b4_3 g3_b4_3 k3_b5_0 g3_b5_0 k3_b5_1 g3_b5_1 k3_b5_2 g3_b5_2 k3_b5_3 g3_b5_3 e3_0 B3 z3; intro f hf; have u26 : f 26 = (.int .i64 3) := (by rw [← hf]; rfl); have u27 : f 27 = (.agg #[.int .u8 s, .int .u8 t, .int .u8 u, .int .u8 d]) := (by rw [← hf]; rfl); have u28 : f 28 = (.agg #[.int .u8 r, .int .u8 g, .int .u8 b, .int .u8 a]) := (by rw [← hf]; rfl); clear hf; intro w' _; simp only [execOp, resolve, invoke, rhoF_tmp, rhoF_func, rhoF_const, u26, u27, u28, List.map_toArray, List.map_cons, List.map_nil]; go_simp
    · clear k3_b4_0 g3_b4_0 k3_b4_1 g3_b4_1 k3_b4_2 g3_b4_2 k3_b4_3 g3_b4_3 k3_b5_0 g3_b5_0 k3_b5_1 g3_b5_1 k3_b5_2 g3_b5_2 k3_b5_3 g3_b5_3 e3_0 B3 z3; rintro w' ⟨h0, h1, h2, h3, h4, h5, h6, h7, h8, h9, h10, h11, h12, h13, h14, h15, h16⟩; exact e2 _
    refine obe_val (by rfl) ?_ ?_
    · clear k3_b4_0 g3_b4_0 k3_b4_1 g3_b4_1 k3_b4_2 g3_b4_2 k3_b4_3 g3_b4_3 k3_b5_0 g3_b5_0 k3_b5_1 g3_b5_1 k3_b5_2 g3_b5_2 k3_b5_3 g3_b5_3 e3_0 B3 z3; intro f hf; have u25 : f 25 = (.agg #[.int .u8 q0, .int .u8 q1, .int .u8 q2, .int .u8 z]) := (by rw [← hf]; rfl); have u29 : f 29 = (.agg #[.int .u8 q0, .int .u8 q1, .int .u8 q2, .int .u8 z]) := (by rw [← hf]; rfl); clear hf; rintro w' ⟨h0, h1, h2, h3, h4, h5, h6, h7, h8, h9, h10, h11, h12, h13, h14, h15, h16⟩; go_simp; try exact IntWalk.i64_in _ (by omega)
    refine obe_val (by rfl) ?_ ?_
    · clear k3_b4_0 g3_b4_0 k3_b4_1 g3_b4_1 k3_b4_2 g3_b4_2 k3_b4_3 g3_b4_3 k3_b5_0 g3_b5_0 k3_b5_1 g3_b5_1 k3_b5_2 g3_b5_2 k3_b5_3 g3_b5_3 e3_0 B3 z3; intro f hf; have u30 : f 30 = (.bool true) := (by rw [← hf]; rfl); clear hf; rintro w' ⟨h0, h1, h2, h3, h4, h5, h6, h7, h8, h9, h10, h11, h12, h13, h14, h15, h16⟩; go_simp; try exact IntWalk.i64_in _ (by omega)
    refine obe_call (by rfl) ?_ ?_ ?_
    · clear k3_b4_0 g3_b4_0 k3_b4_1 g3_b4_1 k3_b4_2 g3_b4_2 k3_b4_3 g3_b4_3 k3_b5_0 g3_b5_0 k3_b5_1 g3_b5_1 k3_b5_2 g3_b5_2 k3_b5_3 g3_b5_3 e3_0 B3 z3; intro f hf; clear hf; intro w' _; simp only [execOp, resolve, invoke, rhoF_tmp, rhoF_func, rhoF_const, List.map_toArray, List.map_cons, List.map_nil]; go_simp
    · clear k3_b4_0 g3_b4_0 k3_b4_1 g3_b4_1 k3_b4_2 g3_b4_2 k3_b4_3 g3_b4_3 k3_b5_0 g3_b5_0 k3_b5_1 g3_b5_1 k3_b5_2 g3_b5_2 k3_b5_3 g3_b5_3 e3_0 B3 z3; rintro w' ⟨h0, h1, h2, h3, h4, h5, h6, h7, h8, h9, h10, h11, h12, h13, h14, h15, h16⟩; exact bex_any _ (by assumption)
    refine obe_val (by rfl) ?_ ?_
    · clear k3_b4_0 g3_b4_0 k3_b4_1 g3_b4_1 k3_b4_2 g3_b4_2 k3_b4_3 g3_b4_3 k3_b5_0 g3_b5_0 k3_b5_1 g3_b5_1 k3_b5_2 g3_b5_2 k3_b5_3 g3_b5_3 e3_0 B3 z3; intro f hf; have u31 : f 31 = (.bool true) := (by rw [← hf]; rfl); have u32 : f 32 = (.bool true) := (by rw [← hf]; rfl); clear hf; rintro w' ⟨h0, h1, h2, h3, h4, h5, h6, h7, h8, h9, h10, h11, h12, h13, h14, h15, h16⟩; go_simp; try exact IntWalk.i64_in _ (by omega)
    refine obe_val (by rfl) ?_ ?_
    · clear k3_b4_0 g3_b4_0 k3_b4_1 g3_b4_1 k3_b4_2 g3_b4_2 k3_b4_3 g3_b4_3 k3_b5_0 g3_b5_0 k3_b5_1 g3_b5_1 k3_b5_2 g3_b5_2 k3_b5_3 g3_b5_3 e3_0 B3 z3; intro f hf; have u33 : f 33 = (.bool true) := (by rw [← hf]; rfl); clear hf; rintro w' ⟨h0, h1, h2, h3, h4, h5, h6, h7, h8, h9, h10, h11, h12, h13, h14, h15, h16⟩; go_simp; try exact IntWalk.i64_in _ (by omega)
    refine obe_nil ?_
    rintro w4 ⟨h0, h1, h2, h3, h4, h5, h6, h7, h8, h9, h10, h11, h12, h13, h14, h15, h16⟩ hb4 hF
    (try simp only [List.nil_append, List.append_nil, List.cons_append] at hF)
    simp only [puts, putD, Act.put, List.setIfInBounds_toArray, List.set_cons_zero, List.set_cons_succ]
    clear hF
    have k4_b4_0 := bcs hb4 k3_b4_0
    have g4_b4_0 := bfs hb4 k3_b4_0 g3_b4_0
    have k4_b4_1 := bcs hb4 k3_b4_1
    have g4_b4_1 := bfs hb4 k3_b4_1 g3_b4_1
    have k4_b4_2 := bcs hb4 k3_b4_2
    have g4_b4_2 := bfs hb4 k3_b4_2 g3_b4_2
    have k4_b4_3 := bcs hb4 k3_b4_3
    have g4_b4_3 := bfs hb4 k3_b4_3 g3_b4_3
    have k4_b5_0 := bcs hb4 k3_b5_0
    have g4_b5_0 := bfs hb4 k3_b5_0 g3_b5_0
    have k4_b5_1 := bcs hb4 k3_b5_1
    have g4_b5_1 := bfs hb4 k3_b5_1 g3_b5_1
    have k4_b5_2 := bcs hb4 k3_b5_2
    have g4_b5_2 := bfs hb4 k3_b5_2 g3_b5_2
    have k4_b5_3 := bcs hb4 k3_b5_3
    have g4_b5_3 := bfs hb4 k3_b5_3 g3_b5_3
    clear h0 h1 h2 h3 h4 h5 h6 h7 h8 h9 h10 h11 h12 h13 h14 h15 h16
    have B4 := bel_step B3 hb4
    have z4 := Nat.le_trans z3 hb4.size
    have e4_0 := Nm.below hN B4
    clear hb4
    (try clear B3)
    (try clear z3)
    (try clear k3_b4_0)
    (try clear g3_b4_0)
    (try clear k3_b4_1)
    (try clear g3_b4_1)
    (try clear k3_b4_2)
    (try clear g3_b4_2)
    (try clear k3_b4_3)
    (try clear g3_b4_3)
    (try clear k3_b5_0)
    (try clear g3_b5_0)
    (try clear k3_b5_1)
    (try clear g3_b5_1)
    (try clear k3_b5_2)
    (try clear g3_b5_2)
    (try clear k3_b5_3)
    (try clear g3_b5_3)
    (try clear e3_0)
    (try clear q3_b4)
    (try clear x3_b4)
    (try clear y3_b4)
    (try clear q3_b5)
    (try clear x3_b5)
    (try clear y3_b5)
    have q4_b4 : w.heap.size < w4.heap.size := qlt k4_b4_0
    have x4_b4 : ¬ w.heap.size = w4.heap.size := qne k4_b4_0
    have y4_b4 : ¬ w4.heap.size = w.heap.size := fun h => qne k4_b4_0 h.symm
    have q4_b5 : w.heap.size + 1 < w4.heap.size := qlt k4_b5_0
    have x4_b5 : ¬ w.heap.size + 1 = w4.heap.size := qne k4_b5_0
    have y4_b5 : ¬ w4.heap.size = w.heap.size + 1 := fun h => qne k4_b5_0 h.symm
    unfold wpList
    go_wp2
    go_ret
    refine ⟨rfl, ?_⟩
    repeat (first | with_reducible exact Below.refl _ _ | with_reducible exact B4 | with_reducible apply below_drewN | with_reducible apply Below.drew | (with_reducible refine Below.alloc ?_ (by first | (simp; done) | (simp; omega) | omega) _) | (with_reducible refine Below.setCell ?_ (by first | (simp; done) | (simp; omega) | omega) _))
  have n3 : (m == 3) = false := by simpa using k3
  clear k3
  by_cases k5 : m = 5
  · subst k5
    have e1 := fun w => blend_any 5 r g b a s t u d (by omega) (by omega) r0 r1 g0 g1 b0 b1 a0 a1 s0 s1 t0 t1 u0 u1 d0 d1 w
    have e2 := fun w => blend_any 5 s t u d r g b a (by omega) (by omega) s0 s1 t0 t1 u0 u1 d0 d1 r0 r1 g0 g1 b0 b1 a0 a1 w
    rw [bc_comm 5 (min r a) a (min s d) d (by omega), bc_comm 5 (min g a) a (min t d) d (by omega), bc_comm 5 (min b a) a (min u d) d (by omega), al_comm, hz] at e2
    rw [hz] at e1
    clear hz
    obtain ⟨q0, hq0⟩ : ∃ x, bc 5 (min r a) a (min s d) d = x := ⟨_, rfl⟩
    obtain ⟨q1, hq1⟩ : ∃ x, bc 5 (min g a) a (min t d) d = x := ⟨_, rfl⟩
    obtain ⟨q2, hq2⟩ : ∃ x, bc 5 (min b a) a (min u d) d = x := ⟨_, rfl⟩
    rw [hq0, hq1, hq2] at e1 e2
    clear hq0 hq1 hq2
    go_enter Tryd.func8, Tryd.ntmps8
    go_wp2
    refine wp_region_env (fun w' => w'.cell? ⟨w.heap.size, 0, none⟩ = some (.int .u8 r) ∧ w'.frozen? ⟨w.heap.size, 0, none⟩ = false ∧ w'.cell? ⟨w.heap.size, 1, none⟩ = some (.int .u8 g) ∧ w'.frozen? ⟨w.heap.size, 1, none⟩ = false ∧ w'.cell? ⟨w.heap.size, 2, none⟩ = some (.int .u8 b) ∧ w'.frozen? ⟨w.heap.size, 2, none⟩ = false ∧ w'.cell? ⟨w.heap.size, 3, none⟩ = some (.int .u8 a) ∧ w'.frozen? ⟨w.heap.size, 3, none⟩ = false ∧ w'.cell? ⟨w.heap.size + 1, 0, none⟩ = some (.int .u8 s) ∧ w'.frozen? ⟨w.heap.size + 1, 0, none⟩ = false ∧ w'.cell? ⟨w.heap.size + 1, 1, none⟩ = some (.int .u8 t) ∧ w'.frozen? ⟨w.heap.size + 1, 1, none⟩ = false ∧ w'.cell? ⟨w.heap.size + 1, 2, none⟩ = some (.int .u8 u) ∧ w'.frozen? ⟨w.heap.size + 1, 2, none⟩ = false ∧ w'.cell? ⟨w.heap.size + 1, 3, none⟩ = some (.int .u8 d) ∧ w'.frozen? ⟨w.heap.size + 1, 3, none⟩ = false ∧ Nm w') (fun W => W.cell? ⟨w.heap.size, 0, none⟩ = some (.int .u8 r) ∧ W.frozen? ⟨w.heap.size, 0, none⟩ = false ∧ W.cell? ⟨w.heap.size, 1, none⟩ = some (.int .u8 g) ∧ W.frozen? ⟨w.heap.size, 1, none⟩ = false ∧ W.cell? ⟨w.heap.size, 2, none⟩ = some (.int .u8 b) ∧ W.frozen? ⟨w.heap.size, 2, none⟩ = false ∧ W.cell? ⟨w.heap.size, 3, none⟩ = some (.int .u8 a) ∧ W.frozen? ⟨w.heap.size, 3, none⟩ = false ∧ W.cell? ⟨w.heap.size + 1, 0, none⟩ = some (.int .u8 s) ∧ W.frozen? ⟨w.heap.size + 1, 0, none⟩ = false ∧ W.cell? ⟨w.heap.size + 1, 1, none⟩ = some (.int .u8 t) ∧ W.frozen? ⟨w.heap.size + 1, 1, none⟩ = false ∧ W.cell? ⟨w.heap.size + 1, 2, none⟩ = some (.int .u8 u) ∧ W.frozen? ⟨w.heap.size + 1, 2, none⟩ = false ∧ W.cell? ⟨w.heap.size + 1, 3, none⟩ = some (.int .u8 d) ∧ W.frozen? ⟨w.heap.size + 1, 3, none⟩ = false ∧ Nm W ∧ Below w.heap.size w W ∧ w.heap.size + 1 + 1 ≤ W.heap.size) 7 35 [.val (.agg #[.int .u8 r, .int .u8 g, .int .u8 b, .int .u8 a]), .val (.agg #[.int .u8 s, .int .u8 t, .int .u8 u, .int .u8 d]), .call 23 #[.int .i64 9, .agg #[.int .u8 r, .int .u8 g, .int .u8 b, .int .u8 a], .agg #[.int .u8 s, .int .u8 t, .int .u8 u, .int .u8 d]] (.agg #[.int .u8 y0, .int .u8 y1, .int .u8 y2, .int .u8 z]), .val (.agg #[.int .u8 s, .int .u8 t, .int .u8 u, .int .u8 d]), .val (.agg #[.int .u8 r, .int .u8 g, .int .u8 b, .int .u8 a]), .call 23 #[.int .i64 4, .agg #[.int .u8 s, .int .u8 t, .int .u8 u, .int .u8 d], .agg #[.int .u8 r, .int .u8 g, .int .u8 b, .int .u8 a]] (.agg #[.int .u8 y0, .int .u8 y1, .int .u8 y2, .int .u8 z]), .val (.bool false)] (by kernel_rfl) (by kernel_rfl) rfl (by kernel_rfl) (by rintro w1 w2 ⟨h0, h1, h2, h3, h4, h5, h6, h7, h8, h9, h10, h11, h12, h13, h14, h15, h16⟩ hb; exact ⟨bcs hb h0, bfs hb h0 h1, bcs hb h2, bfs hb h2 h3, bcs hb h4, bfs hb h4 h5, bcs hb h6, bfs hb h6 h7, bcs hb h8, bfs hb h8 h9, bcs hb h10, bfs hb h10 h11, bcs hb h12, bfs hb h12 h13, bcs hb h14, bfs hb h14 h15, Nm.below h16 hb⟩) ⟨by first | with_reducible assumption | go_simp, by first | with_reducible assumption | go_simp, by first | with_reducible assumption | go_simp, by first | with_reducible assumption | go_simp, by first | with_reducible assumption | go_simp, by first | with_reducible assumption | go_simp, by first | with_reducible assumption | go_simp, by first | with_reducible assumption | go_simp, by first | with_reducible assumption | go_simp, by first | with_reducible assumption | go_simp, by first | with_reducible assumption | go_simp, by first | with_reducible assumption | go_simp, by first | with_reducible assumption | go_simp, by first | with_reducible assumption | go_simp, by first | with_reducible assumption | go_simp, by first | with_reducible assumption | go_simp, Nm.below hN (by repeat (first | with_reducible exact Below.refl _ _ | fail | with_reducible apply below_drewN | with_reducible apply Below.drew | (with_reducible refine Below.alloc ?_ (by first | (simp; done) | (simp; omega) | omega) _) | (with_reducible refine Below.setCell ?_ (by first | (simp; done) | (simp; omega) | omega) _))), by repeat (first | with_reducible exact Below.refl _ _ | fail | with_reducible apply below_drewN | with_reducible apply Below.drew | (with_reducible refine Below.alloc ?_ (by first | (simp; done) | (simp; omega) | omega) _) | (with_reducible refine Below.setCell ?_ (by first | (simp; done) | (simp; omega) | omega) _)), by first | with_reducible assumption | (simp; done) | (simp; omega)⟩ ?_ ?_
    · rintro W ⟨k1_b4_0, g1_b4_0, k1_b4_1, g1_b4_1, k1_b4_2, g1_b4_2, k1_b4_3, g1_b4_3, k1_b5_0, g1_b5_0, k1_b5_1, g1_b5_1, k1_b5_2, g1_b5_2, k1_b5_3, g1_b5_3, e1_0, B1, z1⟩; exact ⟨k1_b4_0, g1_b4_0, k1_b4_1, g1_b4_1, k1_b4_2, g1_b4_2, k1_b4_3, g1_b4_3, k1_b5_0, g1_b5_0, k1_b5_1, g1_b5_1, k1_b5_2, g1_b5_2, k1_b5_3, g1_b5_3, e1_0⟩
    rintro w1 ⟨k1_b4_0, g1_b4_0, k1_b4_1, g1_b4_1, k1_b4_2, g1_b4_2, k1_b4_3, g1_b4_3, k1_b5_0, g1_b5_0, k1_b5_1, g1_b5_1, k1_b5_2, g1_b5_2, k1_b5_3, g1_b5_3, e1_0, B1, z1⟩ gg
    simp only [List.take_succ_cons, List.take_zero, List.drop_succ_cons, List.drop_zero, List.cons_append, List.nil_append, List.append_nil]
    refine obe_val (by rfl) ?_ ?_
    · clear k1_b4_0 g1_b4_0 k1_b4_1 g1_b4_1 k1_b4_2 g1_b4_2 k1_b4_3 g1_b4_3 k1_b5_0 g1_b5_0 k1_b5_1 g1_b5_1 k1_b5_2 g1_b5_2 k1_b5_3 g1_b5_3 e1_0 B1 z1; intro f hf; have u4 : f 4 = (.pointer (some ⟨w.heap.size, 0, none⟩)) := (by rw [← hf]; rfl); clear hf; rintro w' ⟨h0, h1, h2, h3, h4, h5, h6, h7, h8, h9, h10, h11, h12, h13, h14, h15, h16⟩; go_simp; try exact IntWalk.i64_in _ (by omega)
    refine obe_val (by rfl) ?_ ?_
    · clear k1_b4_0 g1_b4_0 k1_b4_1 g1_b4_1 k1_b4_2 g1_b4_2 k1_b4_3 g1_b4_3 k1_b5_0 g1_b5_0 k1_b5_1 g1_b5_1 k1_b5_2 g1_b5_2 k1_b5_3 g1_b5_3 e1_0 B1 z1; intro f hf; have u5 : f 5 = (.pointer (some ⟨w.heap.size + 1, 0, none⟩)) := (by rw [← hf]; rfl); clear hf; rintro w' ⟨h0, h1, h2, h3, h4, h5, h6, h7, h8, h9, h10, h11, h12, h13, h14, h15, h16⟩; go_simp; try exact IntWalk.i64_in _ (by omega)
    refine obe_call (by rfl) ?_ ?_ ?_
    · clear k1_b4_0 g1_b4_0 k1_b4_1 g1_b4_1 k1_b4_2 g1_b4_2 k1_b4_3 g1_b4_3 k1_b5_0 g1_b5_0 k1_b5_1 g1_b5_1 k1_b5_2 g1_b5_2 k1_b5_3 g1_b5_3 e1_0 B1 z1; intro f hf; have u7 : f 7 = (.agg #[.int .u8 r, .int .u8 g, .int .u8 b, .int .u8 a]) := (by rw [← hf]; rfl); have u8 : f 8 = (.agg #[.int .u8 s, .int .u8 t, .int .u8 u, .int .u8 d]) := (by rw [← hf]; rfl); clear hf; intro w' _; simp only [execOp, resolve, invoke, rhoF_tmp, rhoF_func, rhoF_const, u7, u8, List.map_toArray, List.map_cons, List.map_nil]; go_simp
    · clear k1_b4_0 g1_b4_0 k1_b4_1 g1_b4_1 k1_b4_2 g1_b4_2 k1_b4_3 g1_b4_3 k1_b5_0 g1_b5_0 k1_b5_1 g1_b5_1 k1_b5_2 g1_b5_2 k1_b5_3 g1_b5_3 e1_0 B1 z1; rintro w' ⟨h0, h1, h2, h3, h4, h5, h6, h7, h8, h9, h10, h11, h12, h13, h14, h15, h16⟩; exact c9 _
    refine obe_val (by rfl) ?_ ?_
    · clear k1_b4_0 g1_b4_0 k1_b4_1 g1_b4_1 k1_b4_2 g1_b4_2 k1_b4_3 g1_b4_3 k1_b5_0 g1_b5_0 k1_b5_1 g1_b5_1 k1_b5_2 g1_b5_2 k1_b5_3 g1_b5_3 e1_0 B1 z1; intro f hf; have u5 : f 5 = (.pointer (some ⟨w.heap.size + 1, 0, none⟩)) := (by rw [← hf]; rfl); clear hf; rintro w' ⟨h0, h1, h2, h3, h4, h5, h6, h7, h8, h9, h10, h11, h12, h13, h14, h15, h16⟩; go_simp; try exact IntWalk.i64_in _ (by omega)
    refine obe_val (by rfl) ?_ ?_
    · clear k1_b4_0 g1_b4_0 k1_b4_1 g1_b4_1 k1_b4_2 g1_b4_2 k1_b4_3 g1_b4_3 k1_b5_0 g1_b5_0 k1_b5_1 g1_b5_1 k1_b5_2 g1_b5_2 k1_b5_3 g1_b5_3 e1_0 B1 z1; intro f hf; have u4 : f 4 = (.pointer (some ⟨w.heap.size, 0, none⟩)) := (by rw [← hf]; rfl); clear hf; rintro w' ⟨h0, h1, h2, h3, h4, h5, h6, h7, h8, h9, h10, h11, h12, h13, h14, h15, h16⟩; go_simp; try exact IntWalk.i64_in _ (by omega)
    refine obe_call (by rfl) ?_ ?_ ?_
    · clear k1_b4_0 g1_b4_0 k1_b4_1 g1_b4_1 k1_b4_2 g1_b4_2 k1_b4_3 g1_b4_3 k1_b5_0 g1_b5_0 k1_b5_1 g1_b5_1 k1_b5_2 g1_b5_2 k1_b5_3 g1_b5_3 e1_0 B1 z1; intro f hf; have u10 : f 10 = (.agg #[.int .u8 s, .int .u8 t, .int .u8 u, .int .u8 d]) := (by rw [← hf]; rfl); have u11 : f 11 = (.agg #[.int .u8 r, .int .u8 g, .int .u8 b, .int .u8 a]) := (by rw [← hf]; rfl); clear hf; intro w' _; simp only [execOp, resolve, invoke, rhoF_tmp, rhoF_func, rhoF_const, u10, u11, List.map_toArray, List.map_cons, List.map_nil]; go_simp
    · clear k1_b4_0 g1_b4_0 k1_b4_1 g1_b4_1 k1_b4_2 g1_b4_2 k1_b4_3 g1_b4_3 k1_b5_0 g1_b5_0 k1_b5_1 g1_b5_1 k1_b5_2 g1_b5_2 k1_b5_3 g1_b5_3 e1_0 B1 z1; rintro w' ⟨h0, h1, h2, h3, h4, h5, h6, h7, h8, h9, h10, h11, h12, h13, h14, h15, h16⟩; exact c4 _
    refine obe_val (by rfl) ?_ ?_
    · clear k1_b4_0 g1_b4_0 k1_b4_1 g1_b4_1 k1_b4_2 g1_b4_2 k1_b4_3 g1_b4_3 k1_b5_0 g1_b5_0 k1_b5_1 g1_b5_1 k1_b5_2 g1_b5_2 k1_b5_3 g1_b5_3 e1_0 B1 z1; intro f hf; have u9 : f 9 = (.agg #[.int .u8 y0, .int .u8 y1, .int .u8 y2, .int .u8 z]) := (by rw [← hf]; rfl); have u12 : f 12 = (.agg #[.int .u8 y0, .int .u8 y1, .int .u8 y2, .int .u8 z]) := (by rw [← hf]; rfl); clear hf; rintro w' ⟨h0, h1, h2, h3, h4, h5, h6, h7, h8, h9, h10, h11, h12, h13, h14, h15, h16⟩; go_simp; try exact IntWalk.i64_in _ (by omega)
    refine obe_nil ?_
    rintro w2 ⟨h0, h1, h2, h3, h4, h5, h6, h7, h8, h9, h10, h11, h12, h13, h14, h15, h16⟩ hb2 hF
    (try simp only [List.nil_append, List.append_nil, List.cons_append] at hF)
    simp only [puts, putD, Act.put, List.setIfInBounds_toArray, List.set_cons_zero, List.set_cons_succ]
    clear hF
    have k2_b4_0 := bcs hb2 k1_b4_0
    have g2_b4_0 := bfs hb2 k1_b4_0 g1_b4_0
    have k2_b4_1 := bcs hb2 k1_b4_1
    have g2_b4_1 := bfs hb2 k1_b4_1 g1_b4_1
    have k2_b4_2 := bcs hb2 k1_b4_2
    have g2_b4_2 := bfs hb2 k1_b4_2 g1_b4_2
    have k2_b4_3 := bcs hb2 k1_b4_3
    have g2_b4_3 := bfs hb2 k1_b4_3 g1_b4_3
    have k2_b5_0 := bcs hb2 k1_b5_0
    have g2_b5_0 := bfs hb2 k1_b5_0 g1_b5_0
    have k2_b5_1 := bcs hb2 k1_b5_1
    have g2_b5_1 := bfs hb2 k1_b5_1 g1_b5_1
    have k2_b5_2 := bcs hb2 k1_b5_2
    have g2_b5_2 := bfs hb2 k1_b5_2 g1_b5_2
    have k2_b5_3 := bcs hb2 k1_b5_3
    have g2_b5_3 := bfs hb2 k1_b5_3 g1_b5_3
    clear h0 h1 h2 h3 h4 h5 h6 h7 h8 h9 h10 h11 h12 h13 h14 h15 h16
    have B2 := bel_step B1 hb2
    have z2 := Nat.le_trans z1 hb2.size
    have e2_0 := Nm.below hN B2
    clear hb2
    (try clear B1)
    (try clear z1)
    (try clear k1_b4_0)
    (try clear g1_b4_0)
    (try clear k1_b4_1)
    (try clear g1_b4_1)
    (try clear k1_b4_2)
    (try clear g1_b4_2)
    (try clear k1_b4_3)
    (try clear g1_b4_3)
    (try clear k1_b5_0)
    (try clear g1_b5_0)
    (try clear k1_b5_1)
    (try clear g1_b5_1)
    (try clear k1_b5_2)
    (try clear g1_b5_2)
    (try clear k1_b5_3)
    (try clear g1_b5_3)
    (try clear e1_0)
    (try clear q1_b4)
    (try clear x1_b4)
    (try clear y1_b4)
    (try clear q1_b5)
    (try clear x1_b5)
    (try clear y1_b5)
    have q2_b4 : w.heap.size < w2.heap.size := qlt k2_b4_0
    have x2_b4 : ¬ w.heap.size = w2.heap.size := qne k2_b4_0
    have y2_b4 : ¬ w2.heap.size = w.heap.size := fun h => qne k2_b4_0 h.symm
    have q2_b5 : w.heap.size + 1 < w2.heap.size := qlt k2_b5_0
    have x2_b5 : ¬ w.heap.size + 1 = w2.heap.size := qne k2_b5_0
    have y2_b5 : ¬ w2.heap.size = w.heap.size + 1 := fun h => qne k2_b5_0 h.symm
    unfold wpList
    go_wp2
    refine wp_region_env (fun w' => w'.cell? ⟨w.heap.size, 0, none⟩ = some (.int .u8 r) ∧ w'.frozen? ⟨w.heap.size, 0, none⟩ = false ∧ w'.cell? ⟨w.heap.size, 1, none⟩ = some (.int .u8 g) ∧ w'.frozen? ⟨w.heap.size, 1, none⟩ = false ∧ w'.cell? ⟨w.heap.size, 2, none⟩ = some (.int .u8 b) ∧ w'.frozen? ⟨w.heap.size, 2, none⟩ = false ∧ w'.cell? ⟨w.heap.size, 3, none⟩ = some (.int .u8 a) ∧ w'.frozen? ⟨w.heap.size, 3, none⟩ = false ∧ w'.cell? ⟨w.heap.size + 1, 0, none⟩ = some (.int .u8 s) ∧ w'.frozen? ⟨w.heap.size + 1, 0, none⟩ = false ∧ w'.cell? ⟨w.heap.size + 1, 1, none⟩ = some (.int .u8 t) ∧ w'.frozen? ⟨w.heap.size + 1, 1, none⟩ = false ∧ w'.cell? ⟨w.heap.size + 1, 2, none⟩ = some (.int .u8 u) ∧ w'.frozen? ⟨w.heap.size + 1, 2, none⟩ = false ∧ w'.cell? ⟨w.heap.size + 1, 3, none⟩ = some (.int .u8 d) ∧ w'.frozen? ⟨w.heap.size + 1, 3, none⟩ = false ∧ Nm w') (fun W => W.cell? ⟨w.heap.size, 0, none⟩ = some (.int .u8 r) ∧ W.frozen? ⟨w.heap.size, 0, none⟩ = false ∧ W.cell? ⟨w.heap.size, 1, none⟩ = some (.int .u8 g) ∧ W.frozen? ⟨w.heap.size, 1, none⟩ = false ∧ W.cell? ⟨w.heap.size, 2, none⟩ = some (.int .u8 b) ∧ W.frozen? ⟨w.heap.size, 2, none⟩ = false ∧ W.cell? ⟨w.heap.size, 3, none⟩ = some (.int .u8 a) ∧ W.frozen? ⟨w.heap.size, 3, none⟩ = false ∧ W.cell? ⟨w.heap.size + 1, 0, none⟩ = some (.int .u8 s) ∧ W.frozen? ⟨w.heap.size + 1, 0, none⟩ = false ∧ W.cell? ⟨w.heap.size + 1, 1, none⟩ = some (.int .u8 t) ∧ W.frozen? ⟨w.heap.size + 1, 1, none⟩ = false ∧ W.cell? ⟨w.heap.size + 1, 2, none⟩ = some (.int .u8 u) ∧ W.frozen? ⟨w.heap.size + 1, 2, none⟩ = false ∧ W.cell? ⟨w.heap.size + 1, 3, none⟩ = some (.int .u8 d) ∧ W.frozen? ⟨w.heap.size + 1, 3, none⟩ = false ∧ Nm W ∧ Below w.heap.size w W ∧ w.heap.size + 1 + 1 ≤ W.heap.size) 13 35 [.val (.int .i64 5), .val (.agg #[.int .u8 r, .int .u8 g, .int .u8 b, .int .u8 a]), .val (.agg #[.int .u8 s, .int .u8 t, .int .u8 u, .int .u8 d]), .call 23 #[.int .i64 5, .agg #[.int .u8 r, .int .u8 g, .int .u8 b, .int .u8 a], .agg #[.int .u8 s, .int .u8 t, .int .u8 u, .int .u8 d]] (.agg #[.int .u8 q0, .int .u8 q1, .int .u8 q2, .int .u8 z]), .val (.int .i64 5), .val (.agg #[.int .u8 s, .int .u8 t, .int .u8 u, .int .u8 d]), .val (.agg #[.int .u8 r, .int .u8 g, .int .u8 b, .int .u8 a]), .call 23 #[.int .i64 5, .agg #[.int .u8 s, .int .u8 t, .int .u8 u, .int .u8 d], .agg #[.int .u8 r, .int .u8 g, .int .u8 b, .int .u8 a]] (.agg #[.int .u8 q0, .int .u8 q1, .int .u8 q2, .int .u8 z]), .val (.bool true), .val (.bool true), .call 20 #[] (.bool true), .val (.bool true), .val (.bool true)] (by kernel_rfl) (by kernel_rfl) rfl (by kernel_rfl) (by rintro w1 w2 ⟨h0, h1, h2, h3, h4, h5, h6, h7, h8, h9, h10, h11, h12, h13, h14, h15, h16⟩ hb; exact ⟨bcs hb h0, bfs hb h0 h1, bcs hb h2, bfs hb h2 h3, bcs hb h4, bfs hb h4 h5, bcs hb h6, bfs hb h6 h7, bcs hb h8, bfs hb h8 h9, bcs hb h10, bfs hb h10 h11, bcs hb h12, bfs hb h12 h13, bcs hb h14, bfs hb h14 h15, Nm.below h16 hb⟩) ⟨by first | with_reducible assumption | go_simp, by first | with_reducible assumption | go_simp, by first | with_reducible assumption | go_simp, by first | with_reducible assumption | go_simp, by first | with_reducible assumption | go_simp, by first | with_reducible assumption | go_simp, by first | with_reducible assumption | go_simp, by first | with_reducible assumption | go_simp, by first | with_reducible assumption | go_simp, by first | with_reducible assumption | go_simp, by first | with_reducible assumption | go_simp, by first | with_reducible assumption | go_simp, by first | with_reducible assumption | go_simp, by first | with_reducible assumption | go_simp, by first | with_reducible assumption | go_simp, by first | with_reducible assumption | go_simp, Nm.below hN (by repeat (first | with_reducible exact Below.refl _ _ | with_reducible exact B2 | with_reducible apply below_drewN | with_reducible apply Below.drew | (with_reducible refine Below.alloc ?_ (by first | (simp; done) | (simp; omega) | omega) _) | (with_reducible refine Below.setCell ?_ (by first | (simp; done) | (simp; omega) | omega) _))), by repeat (first | with_reducible exact Below.refl _ _ | with_reducible exact B2 | with_reducible apply below_drewN | with_reducible apply Below.drew | (with_reducible refine Below.alloc ?_ (by first | (simp; done) | (simp; omega) | omega) _) | (with_reducible refine Below.setCell ?_ (by first | (simp; done) | (simp; omega) | omega) _)), by first | with_reducible assumption | (simp; done) | (simp; omega)⟩ ?_ ?_
    · rintro W ⟨k3_b4_0, g3_b4_0, k3_b4_1, g3_b4_1, k3_b4_2, g3_b4_2, k3_b4_3, g3_b4_3, k3_b5_0, g3_b5_0, k3_b5_1, g3_b5_1, k3_b5_2, g3_b5_2, k3_b5_3, g3_b5_3, e3_0, B3, z3⟩; exact ⟨k3_b4_0, g3_b4_0, k3_b4_1, g3_b4_1, k3_b4_2, g3_b4_2, k3_b4_3, g3_b4_3, k3_b5_0, g3_b5_0, k3_b5_1, g3_b5_1, k3_b5_2, g3_b5_2, k3_b5_3, g3_b5_3, e3_0⟩
    (try clear B2)
    (try clear z2)
    (try clear k2_b4_0)
    (try clear g2_b4_0)
    (try clear k2_b4_1)
    (try clear g2_b4_1)
    (try clear k2_b4_2)
    (try clear g2_b4_2)
    (try clear k2_b4_3)
    (try clear g2_b4_3)
    (try clear k2_b5_0)
    (try clear g2_b5_0)
    (try clear k2_b5_1)
    (try clear g2_b5_1)
    (try clear k2_b5_2)
    (try clear g2_b5_2)
    (try clear k2_b5_3)
    (try clear g2_b5_3)
    (try clear e2_0)
    (try clear q2_b4)
    (try clear x2_b4)
    (try clear y2_b4)
    (try clear q2_b5)
    (try clear x2_b5)
    (try clear y2_b5)
    rintro w3 ⟨k3_b4_0, g3_b4_0, k3_b4_1, g3_b4_1, k3_b4_2, g3_b4_2, k3_b4_3, g3_b4_3, k3_b5_0, g3_b5_0, k3_b5_1, g3_b5_1, k3_b5_2, g3_b5_2, k3_b5_3, g3_b5_3, e3_0, B3, z3⟩ gg
    simp only [List.take_succ_cons, List.take_zero, List.drop_succ_cons, List.drop_zero, List.cons_append, List.nil_append, List.append_nil]
    refine obe_val (by rfl) ?_ ?_
    · clear k3_b4_0 g3_b4_0 k3_b4_1 g3_b4_1 k3_b4_2 g3_b4_2 k3_b4_3 g3_b4_3 k3_b5_0 g3_b5_0 k3_b5_1 g3_b5_1 k3_b5_2 g3_b5_2 k3_b5_3 g3_b5_3 e3_0 B3 z3; intro f hf; have u0 : f 0 = (.int .i64 5) := (by rw [← hf]; rfl); clear hf; rintro w' ⟨h0, h1, h2, h3, h4, h5, h6, h7, h8, h9, h10, h11, h12, h13, h14, h15, h16⟩; go_simp; try exact IntWalk.i64_in _ (by omega)
    refine obe_val (by rfl) ?_ ?_
    · clear k3_b4_0 g3_b4_0 k3_b4_1 g3_b4_1 k3_b4_2 g3_b4_2 k3_b4_3 g3_b4_3 k3_b5_0 g3_b5_0 k3_b5_1 g3_b5_1 k3_b5_2 g3_b5_2 k3_b5_3 g3_b5_3 e3_0 B3 z3; intro f hf; have u4 : f 4 = (.pointer (some ⟨w.heap.size, 0, none⟩)) := (by rw [← hf]; rfl); clear hf; rintro w' ⟨h0, h1, h2, h3, h4, h5, h6, h7, h8, h9, h10, h11, h12, h13, h14, h15, h16⟩; go_simp; try exact IntWalk.i64_in _ (by omega)
    refine obe_val (by rfl) ?_ ?_
    · clear k3_b4_0 g3_b4_0 k3_b4_1 g3_b4_1 k3_b4_2 g3_b4_2 k3_b4_3 g3_b4_3 k3_b5_0 g3_b5_0 k3_b5_1 g3_b5_1 k3_b5_2 g3_b5_2 k3_b5_3 g3_b5_3 e3_0 B3 z3; intro f hf; have u5 : f 5 = (.pointer (some ⟨w.heap.size + 1, 0, none⟩)) := (by rw [← hf]; rfl); clear hf; rintro w' ⟨h0, h1, h2, h3, h4, h5, h6, h7, h8, h9, h10, h11, h12, h13, h14, h15, h16⟩; go_simp; try exact IntWalk.i64_in _ (by omega)
    refine obe_call (by rfl) ?_ ?_ ?_
    · clear k3_b4_0 g3_b4_0 k3_b4_1 g3_b4_1 k3_b4_2 g3_b4_2 k3_b4_3 g3_b4_3 k3_b5_0 g3_b5_0 k3_b5_1 g3_b5_1 k3_b5_2 g3_b5_2 k3_b5_3 g3_b5_3 e3_0 B3 z3; intro f hf; have u22 : f 22 = (.int .i64 5) := (by rw [← hf]; rfl); have u23 : f 23 = (.agg #[.int .u8 r, .int .u8 g, .int .u8 b, .int .u8 a]) := (by rw [← hf]; rfl); have u24 : f 24 = (.agg #[.int .u8 s, .int .u8 t, .int .u8 u, .int .u8 d]) := (by rw [← hf]; rfl); clear hf; intro w' _; simp only [execOp, resolve, invoke, rhoF_tmp, rhoF_func, rhoF_const, u22, u23, u24, List.map_toArray, List.map_cons, List.map_nil]; go_simp
    · clear k3_b4_0 g3_b4_0 k3_b4_1 g3_b4_1 k3_b4_2 g3_b4_2 k3_b4_3 g3_b4_3 k3_b5_0 g3_b5_0 k3_b5_1 g3_b5_1 k3_b5_2 g3_b5_2 k3_b5_3 g3_b5_3 e3_0 B3 z3; rintro w' ⟨h0, h1, h2, h3, h4, h5, h6, h7, h8, h9, h10, h11, h12, h13, h14, h15, h16⟩; exact e1 _
    refine obe_val (by rfl) ?_ ?_
    · clear k3_b4_0 g3_b4_0 k3_b4_1 g3_b4_1 k3_b4_2 g3_b4_2 k3_b4_3 g3_b4_3 k3_b5_0 g3_b5_0 k3_b5_1 g3_b5_1 k3_b5_2 g3_b5_2 k3_b5_3 g3_b5_3 e3_0 B3 z3; intro f hf; have u0 : f 0 = (.int .i64 5) := (by rw [← hf]; rfl); clear hf; rintro w' ⟨h0, h1, h2, h3, h4, h5, h6, h7, h8, h9, h10, h11, h12, h13, h14, h15, h16⟩; go_simp; try exact IntWalk.i64_in _ (by omega)
    refine obe_val (by rfl) ?_ ?_
    · clear k3_b4_0 g3_b4_0 k3_b4_1 g3_b4_1 k3_b4_2 g3_b4_2 k3_b4_3 g3_b4_3 k3_b5_0 g3_b5_0 k3_b5_1 g3_b5_1 k3_b5_2 g3_b5_2 k3_b5_3 g3_b5_3 e3_0 B3 z3; intro f hf; have u5 : f 5 = (.pointer (some ⟨w.heap.size + 1, 0, none⟩)) := (by rw [← hf]; rfl); clear hf; rintro w' ⟨h0, h1, h2, h3, h4, h5, h6, h7, h8, h9, h10, h11, h12, h13, h14, h15, h16⟩; go_simp; try exact IntWalk.i64_in _ (by omega)
    refine obe_val (by rfl) ?_ ?_
    · clear k3_b4_0 g3_b4_0 k3_b4_1 g3_b4_1 k3_b4_2 g3_b4_2 k3_b4_3 g3_b4_3 k3_b5_0 g3_b5_0 k3_b5_1 g3_b5_1 k3_b5_2 g3_b5_2 k3_b5_3 g3_b5_3 e3_0 B3 z3; intro f hf; have u4 : f 4 = (.pointer (some ⟨w.heap.size, 0, none⟩)) := (by rw [← hf]; rfl); clear hf; rintro w' ⟨h0, h1, h2, h3, h4, h5, h6, h7, h8, h9, h10, h11, h12, h13, h14, h15, h16⟩; go_simp; try exact IntWalk.i64_in _ (by omega)
    refine obe_call (by rfl) ?_ ?_ ?_
    · clear k3_b4_0 g3_b4_0 k3_b4_1 g3_b4_1 k3_b4_2 g3_b4_2 k3_b4_3 g3_b4_3 k3_b5_0 g3_b5_0 k3_b5_1 g3_b5_1 k3_b5_2 g3_b5_2 k3_b5_3 g3_b5_3 e3_0 B3 z3; intro f hf; have u26 : f 26 = (.int .i64 5) := (by rw [← hf]; rfl); have u27 : f 27 = (.agg #[.int .u8 s, .int .u8 t, .int .u8 u, .int .u8 d]) := (by rw [← hf]; rfl); have u28 : f 28 = (.agg #[.int .u8 r, .int .u8 g, .int .u8 b, .int .u8 a]) := (by rw [← hf]; rfl); clear hf; intro w' _; simp only [execOp, resolve, invoke, rhoF_tmp, rhoF_func, rhoF_const, u26, u27, u28, List.map_toArray, List.map_cons, List.map_nil]; go_simp
    · clear k3_b4_0 g3_b4_0 k3_b4_1 g3_b4_1 k3_b4_2 g3_b4_2 k3_b4_3 g3_b4_3 k3_b5_0 g3_b5_0 k3_b5_1 g3_b5_1 k3_b5_2 g3_b5_2 k3_b5_3 g3_b5_3 e3_0 B3 z3; rintro w' ⟨h0, h1, h2, h3, h4, h5, h6, h7, h8, h9, h10, h11, h12, h13, h14, h15, h16⟩; exact e2 _
    refine obe_val (by rfl) ?_ ?_
    · clear k3_b4_0 g3_b4_0 k3_b4_1 g3_b4_1 k3_b4_2 g3_b4_2 k3_b4_3 g3_b4_3 k3_b5_0 g3_b5_0 k3_b5_1 g3_b5_1 k3_b5_2 g3_b5_2 k3_b5_3 g3_b5_3 e3_0 B3 z3; intro f hf; have u25 : f 25 = (.agg #[.int .u8 q0, .int .u8 q1, .int .u8 q2, .int .u8 z]) := (by rw [← hf]; rfl); have u29 : f 29 = (.agg #[.int .u8 q0, .int .u8 q1, .int .u8 q2, .int .u8 z]) := (by rw [← hf]; rfl); clear hf; rintro w' ⟨h0, h1, h2, h3, h4, h5, h6, h7, h8, h9, h10, h11, h12, h13, h14, h15, h16⟩; go_simp; try exact IntWalk.i64_in _ (by omega)
    refine obe_val (by rfl) ?_ ?_
    · clear k3_b4_0 g3_b4_0 k3_b4_1 g3_b4_1 k3_b4_2 g3_b4_2 k3_b4_3 g3_b4_3 k3_b5_0 g3_b5_0 k3_b5_1 g3_b5_1 k3_b5_2 g3_b5_2 k3_b5_3 g3_b5_3 e3_0 B3 z3; intro f hf; have u30 : f 30 = (.bool true) := (by rw [← hf]; rfl); clear hf; rintro w' ⟨h0, h1, h2, h3, h4, h5, h6, h7, h8, h9, h10, h11, h12, h13, h14, h15, h16⟩; go_simp; try exact IntWalk.i64_in _ (by omega)
    refine obe_call (by rfl) ?_ ?_ ?_
    · clear k3_b4_0 g3_b4_0 k3_b4_1 g3_b4_1 k3_b4_2 g3_b4_2 k3_b4_3 g3_b4_3 k3_b5_0 g3_b5_0 k3_b5_1 g3_b5_1 k3_b5_2 g3_b5_2 k3_b5_3 g3_b5_3 e3_0 B3 z3; intro f hf; clear hf; intro w' _; simp only [execOp, resolve, invoke, rhoF_tmp, rhoF_func, rhoF_const, List.map_toArray, List.map_cons, List.map_nil]; go_simp
    · clear k3_b4_0 g3_b4_0 k3_b4_1 g3_b4_1 k3_b4_2 g3_b4_2 k3_b4_3 g3_b4_3 k3_b5_0 g3_b5_0 k3_b5_1 g3_b5_1 k3_b5_2 g3_b5_2 k3_b5_3 g3_b5_3 e3_0 B3 z3; rintro w' ⟨h0, h1, h2, h3, h4, h5, h6, h7, h8, h9, h10, h11, h12, h13, h14, h15, h16⟩; exact bex_any _ (by assumption)
    refine obe_val (by rfl) ?_ ?_
    · clear k3_b4_0 g3_b4_0 k3_b4_1 g3_b4_1 k3_b4_2 g3_b4_2 k3_b4_3 g3_b4_3 k3_b5_0 g3_b5_0 k3_b5_1 g3_b5_1 k3_b5_2 g3_b5_2 k3_b5_3 g3_b5_3 e3_0 B3 z3; intro f hf; have u31 : f 31 = (.bool true) := (by rw [← hf]; rfl); have u32 : f 32 = (.bool true) := (by rw [← hf]; rfl); clear hf; rintro w' ⟨h0, h1, h2, h3, h4, h5, h6, h7, h8, h9, h10, h11, h12, h13, h14, h15, h16⟩; go_simp; try exact IntWalk.i64_in _ (by omega)
    refine obe_val (by rfl) ?_ ?_
    · clear k3_b4_0 g3_b4_0 k3_b4_1 g3_b4_1 k3_b4_2 g3_b4_2 k3_b4_3 g3_b4_3 k3_b5_0 g3_b5_0 k3_b5_1 g3_b5_1 k3_b5_2 g3_b5_2 k3_b5_3 g3_b5_3 e3_0 B3 z3; intro f hf; have u33 : f 33 = (.bool true) := (by rw [← hf]; rfl); clear hf; rintro w' ⟨h0, h1, h2, h3, h4, h5, h6, h7, h8, h9, h10, h11, h12, h13, h14, h15, h16⟩; go_simp; try exact IntWalk.i64_in _ (by omega)
    refine obe_nil ?_
    rintro w4 ⟨h0, h1, h2, h3, h4, h5, h6, h7, h8, h9, h10, h11, h12, h13, h14, h15, h16⟩ hb4 hF
    (try simp only [List.nil_append, List.append_nil, List.cons_append] at hF)
    simp only [puts, putD, Act.put, List.setIfInBounds_toArray, List.set_cons_zero, List.set_cons_succ]
    clear hF
    have k4_b4_0 := bcs hb4 k3_b4_0
    have g4_b4_0 := bfs hb4 k3_b4_0 g3_b4_0
    have k4_b4_1 := bcs hb4 k3_b4_1
    have g4_b4_1 := bfs hb4 k3_b4_1 g3_b4_1
    have k4_b4_2 := bcs hb4 k3_b4_2
    have g4_b4_2 := bfs hb4 k3_b4_2 g3_b4_2
    have k4_b4_3 := bcs hb4 k3_b4_3
    have g4_b4_3 := bfs hb4 k3_b4_3 g3_b4_3
    have k4_b5_0 := bcs hb4 k3_b5_0
    have g4_b5_0 := bfs hb4 k3_b5_0 g3_b5_0
    have k4_b5_1 := bcs hb4 k3_b5_1
    have g4_b5_1 := bfs hb4 k3_b5_1 g3_b5_1
    have k4_b5_2 := bcs hb4 k3_b5_2
    have g4_b5_2 := bfs hb4 k3_b5_2 g3_b5_2
    have k4_b5_3 := bcs hb4 k3_b5_3
    have g4_b5_3 := bfs hb4 k3_b5_3 g3_b5_3
    clear h0 h1 h2 h3 h4 h5 h6 h7 h8 h9 h10 h11 h12 h13 h14 h15 h16
    have B4 := bel_step B3 hb4
    have z4 := Nat.le_trans z3 hb4.size
    have e4_0 := Nm.below hN B4
    clear hb4
    (try clear B3)
    (try clear z3)
    (try clear k3_b4_0)
    (try clear g3_b4_0)
    (try clear k3_b4_1)
    (try clear g3_b4_1)
    (try clear k3_b4_2)
    (try clear g3_b4_2)
    (try clear k3_b4_3)
    (try clear g3_b4_3)
    (try clear k3_b5_0)
    (try clear g3_b5_0)
    (try clear k3_b5_1)
    (try clear g3_b5_1)
    (try clear k3_b5_2)
    (try clear g3_b5_2)
    (try clear k3_b5_3)
    (try clear g3_b5_3)
    (try clear e3_0)
    (try clear q3_b4)
    (try clear x3_b4)
    (try clear y3_b4)
    (try clear q3_b5)
    (try clear x3_b5)
    (try clear y3_b5)
    have q4_b4 : w.heap.size < w4.heap.size := qlt k4_b4_0
    have x4_b4 : ¬ w.heap.size = w4.heap.size := qne k4_b4_0
    have y4_b4 : ¬ w4.heap.size = w.heap.size := fun h => qne k4_b4_0 h.symm
    have q4_b5 : w.heap.size + 1 < w4.heap.size := qlt k4_b5_0
    have x4_b5 : ¬ w.heap.size + 1 = w4.heap.size := qne k4_b5_0
    have y4_b5 : ¬ w4.heap.size = w.heap.size + 1 := fun h => qne k4_b5_0 h.symm
    unfold wpList
    go_wp2
    go_ret
    refine ⟨rfl, ?_⟩
    repeat (first | with_reducible exact Below.refl _ _ | with_reducible exact B4 | with_reducible apply below_drewN | with_reducible apply Below.drew | (with_reducible refine Below.alloc ?_ (by first | (simp; done) | (simp; omega) | omega) _) | (with_reducible refine Below.setCell ?_ (by first | (simp; done) | (simp; omega) | omega) _))
  have n5 : (m == 5) = false := by simpa using k5
  clear k5
  by_cases k6 : m = 6
  · subst k6
    have e1 := fun w => blend_any 6 r g b a s t u d (by omega) (by omega) r0 r1 g0 g1 b0 b1 a0 a1 s0 s1 t0 t1 u0 u1 d0 d1 w
    have e2 := fun w => blend_any 6 s t u d r g b a (by omega) (by omega) s0 s1 t0 t1 u0 u1 d0 d1 r0 r1 g0 g1 b0 b1 a0 a1 w
    rw [bc_comm 6 (min r a) a (min s d) d (by omega), bc_comm 6 (min g a) a (min t d) d (by omega), bc_comm 6 (min b a) a (min u d) d (by omega), al_comm, hz] at e2
    rw [hz] at e1
    clear hz
    obtain ⟨q0, hq0⟩ : ∃ x, bc 6 (min r a) a (min s d) d = x := ⟨_, rfl⟩
    obtain ⟨q1, hq1⟩ : ∃ x, bc 6 (min g a) a (min t d) d = x := ⟨_, rfl⟩
    obtain ⟨q2, hq2⟩ : ∃ x, bc 6 (min b a) a (min u d) d = x := ⟨_, rfl⟩
    rw [hq0, hq1, hq2] at e1 e2
    clear hq0 hq1 hq2
    go_enter Tryd.func8, Tryd.ntmps8
    go_wp2
    refine wp_region_env (fun w' => w'.cell? ⟨w.heap.size, 0, none⟩ = some (.int .u8 r) ∧ w'.frozen? ⟨w.heap.size, 0, none⟩ = false ∧ w'.cell? ⟨w.heap.size, 1, none⟩ = some (.int .u8 g) ∧ w'.frozen? ⟨w.heap.size, 1, none⟩ = false ∧ w'.cell? ⟨w.heap.size, 2, none⟩ = some (.int .u8 b) ∧ w'.frozen? ⟨w.heap.size, 2, none⟩ = false ∧ w'.cell? ⟨w.heap.size, 3, none⟩ = some (.int .u8 a) ∧ w'.frozen? ⟨w.heap.size, 3, none⟩ = false ∧ w'.cell? ⟨w.heap.size + 1, 0, none⟩ = some (.int .u8 s) ∧ w'.frozen? ⟨w.heap.size + 1, 0, none⟩ = false ∧ w'.cell? ⟨w.heap.size + 1, 1, none⟩ = some (.int .u8 t) ∧ w'.frozen? ⟨w.heap.size + 1, 1, none⟩ = false ∧ w'.cell? ⟨w.heap.size + 1, 2, none⟩ = some (.int .u8 u) ∧ w'.frozen? ⟨w.heap.size + 1, 2, none⟩ = false ∧ w'.cell? ⟨w.heap.size + 1, 3, none⟩ = some (.int .u8 d) ∧ w'.frozen? ⟨w.heap.size + 1, 3, none⟩ = false ∧ Nm w') (fun W => W.cell? ⟨w.heap.size, 0, none⟩ = some (.int .u8 r) ∧ W.frozen? ⟨w.heap.size, 0, none⟩ = false ∧ W.cell? ⟨w.heap.size, 1, none⟩ = some (.int .u8 g) ∧ W.frozen? ⟨w.heap.size, 1, none⟩ = false ∧ W.cell? ⟨w.heap.size, 2, none⟩ = some (.int .u8 b) ∧ W.frozen? ⟨w.heap.size, 2, none⟩ = false ∧ W.cell? ⟨w.heap.size, 3, none⟩ = some (.int .u8 a) ∧ W.frozen? ⟨w.heap.size, 3, none⟩ = false ∧ W.cell? ⟨w.heap.size + 1, 0, none⟩ = some (.int .u8 s) ∧ W.frozen? ⟨w.heap.size + 1, 0, none⟩ = false ∧ W.cell? ⟨w.heap.size + 1, 1, none⟩ = some (.int .u8 t) ∧ W.frozen? ⟨w.heap.size + 1, 1, none⟩ = false ∧ W.cell? ⟨w.heap.size + 1, 2, none⟩ = some (.int .u8 u) ∧ W.frozen? ⟨w.heap.size + 1, 2, none⟩ = false ∧ W.cell? ⟨w.heap.size + 1, 3, none⟩ = some (.int .u8 d) ∧ W.frozen? ⟨w.heap.size + 1, 3, none⟩ = false ∧ Nm W ∧ Below w.heap.size w W ∧ w.heap.size + 1 + 1 ≤ W.heap.size) 7 35 [.val (.agg #[.int .u8 r, .int .u8 g, .int .u8 b, .int .u8 a]), .val (.agg #[.int .u8 s, .int .u8 t, .int .u8 u, .int .u8 d]), .call 23 #[.int .i64 9, .agg #[.int .u8 r, .int .u8 g, .int .u8 b, .int .u8 a], .agg #[.int .u8 s, .int .u8 t, .int .u8 u, .int .u8 d]] (.agg #[.int .u8 y0, .int .u8 y1, .int .u8 y2, .int .u8 z]), .val (.agg #[.int .u8 s, .int .u8 t, .int .u8 u, .int .u8 d]), .val (.agg #[.int .u8 r, .int .u8 g, .int .u8 b, .int .u8 a]), .call 23 #[.int .i64 4, .agg #[.int .u8 s, .int .u8 t, .int .u8 u, .int .u8 d], .agg #[.int .u8 r, .int .u8 g, .int .u8 b, .int .u8 a]] (.agg #[.int .u8 y0, .int .u8 y1, .int .u8 y2, .int .u8 z]), .val (.bool false)] (by kernel_rfl) (by kernel_rfl) rfl (by kernel_rfl) (by rintro w1 w2 ⟨h0, h1, h2, h3, h4, h5, h6, h7, h8, h9, h10, h11, h12, h13, h14, h15, h16⟩ hb; exact ⟨bcs hb h0, bfs hb h0 h1, bcs hb h2, bfs hb h2 h3, bcs hb h4, bfs hb h4 h5, bcs hb h6, bfs hb h6 h7, bcs hb h8, bfs hb h8 h9, bcs hb h10, bfs hb h10 h11, bcs hb h12, bfs hb h12 h13, bcs hb h14, bfs hb h14 h15, Nm.below h16 hb⟩) ⟨by first | with_reducible assumption | go_simp, by first | with_reducible assumption | go_simp, by first | with_reducible assumption | go_simp, by first | with_reducible assumption | go_simp, by first | with_reducible assumption | go_simp, by first | with_reducible assumption | go_simp, by first | with_reducible assumption | go_simp, by first | with_reducible assumption | go_simp, by first | with_reducible assumption | go_simp, by first | with_reducible assumption | go_simp, by first | with_reducible assumption | go_simp, by first | with_reducible assumption | go_simp, by first | with_reducible assumption | go_simp, by first | with_reducible assumption | go_simp, by first | with_reducible assumption | go_simp, by first | with_reducible assumption | go_simp, Nm.below hN (by repeat (first | with_reducible exact Below.refl _ _ | fail | with_reducible apply below_drewN | with_reducible apply Below.drew | (with_reducible refine Below.alloc ?_ (by first | (simp; done) | (simp; omega) | omega) _) | (with_reducible refine Below.setCell ?_ (by first | (simp; done) | (simp; omega) | omega) _))), by repeat (first | with_reducible exact Below.refl _ _ | fail | with_reducible apply below_drewN | with_reducible apply Below.drew | (with_reducible refine Below.alloc ?_ (by first | (simp; done) | (simp; omega) | omega) _) | (with_reducible refine Below.setCell ?_ (by first | (simp; done) | (simp; omega) | omega) _)), by first | with_reducible assumption | (simp; done) | (simp; omega)⟩ ?_ ?_
    · rintro W ⟨k1_b4_0, g1_b4_0, k1_b4_1, g1_b4_1, k1_b4_2, g1_b4_2, k1_b4_3, g1_b4_3, k1_b5_0, g1_b5_0, k1_b5_1, g1_b5_1, k1_b5_2, g1_b5_2, k1_b5_3, g1_b5_3, e1_0, B1, z1⟩; exact ⟨k1_b4_0, g1_b4_0, k1_b4_1, g1_b4_1, k1_b4_2, g1_b4_2, k1_b4_3, g1_b4_3, k1_b5_0, g1_b5_0, k1_b5_1, g1_b5_1, k1_b5_2, g1_b5_2, k1_b5_3, g1_b5_3, e1_0⟩
    rintro w1 ⟨k1_b4_0, g1_b4_0, k1_b4_1, g1_b4_1, k1_b4_2, g1_b4_2, k1_b4_3, g1_b4_3, k1_b5_0, g1_b5_0, k1_b5_1, g1_b5_1, k1_b5_2, g1_b5_2, k1_b5_3, g1_b5_3, e1_0, B1, z1⟩ gg
    simp only [List.take_succ_cons, List.take_zero, List.drop_succ_cons, List.drop_zero, List.cons_append, List.nil_append, List.append_nil]
    refine obe_val (by rfl) ?_ ?_
    · clear k1_b4_0 g1_b4_0 k1_b4_1 g1_b4_1 k1_b4_2 g1_b4_2 k1_b4_3 g1_b4_3 k1_b5_0 g1_b5_0 k1_b5_1 g1_b5_1 k1_b5_2 g1_b5_2 k1_b5_3 g1_b5_3 e1_0 B1 z1; intro f hf; have u4 : f 4 = (.pointer (some ⟨w.heap.size, 0, none⟩)) := (by rw [← hf]; rfl); clear hf; rintro w' ⟨h0, h1, h2, h3, h4, h5, h6, h7, h8, h9, h10, h11, h12, h13, h14, h15, h16⟩; go_simp; try exact IntWalk.i64_in _ (by omega)
    refine obe_val (by rfl) ?_ ?_
    · clear k1_b4_0 g1_b4_0 k1_b4_1 g1_b4_1 k1_b4_2 g1_b4_2 k1_b4_3 g1_b4_3 k1_b5_0 g1_b5_0 k1_b5_1 g1_b5_1 k1_b5_2 g1_b5_2 k1_b5_3 g1_b5_3 e1_0 B1 z1; intro f hf; have u5 : f 5 = (.pointer (some ⟨w.heap.size + 1, 0, none⟩)) := (by rw [← hf]; rfl); clear hf; rintro w' ⟨h0, h1, h2, h3, h4, h5, h6, h7, h8, h9, h10, h11, h12, h13, h14, h15, h16⟩; go_simp; try exact IntWalk.i64_in _ (by omega)
    refine obe_call (by rfl) ?_ ?_ ?_
    · clear k1_b4_0 g1_b4_0 k1_b4_1 g1_b4_1 k1_b4_2 g1_b4_2 k1_b4_3 g1_b4_3 k1_b5_0 g1_b5_0 k1_b5_1 g1_b5_1 k1_b5_2 g1_b5_2 k1_b5_3 g1_b5_3 e1_0 B1 z1; intro f hf; have u7 : f 7 = (.agg #[.int .u8 r, .int .u8 g, .int .u8 b, .int .u8 a]) := (by rw [← hf]; rfl); have u8 : f 8 = (.agg #[.int .u8 s, .int .u8 t, .int .u8 u, .int .u8 d]) := (by rw [← hf]; rfl); clear hf; intro w' _; simp only [execOp, resolve, invoke, rhoF_tmp, rhoF_func, rhoF_const, u7, u8, List.map_toArray, List.map_cons, List.map_nil]; go_simp
    · clear k1_b4_0 g1_b4_0 k1_b4_1 g1_b4_1 k1_b4_2 g1_b4_2 k1_b4_3 g1_b4_3 k1_b5_0 g1_b5_0 k1_b5_1 g1_b5_1 k1_b5_2 g1_b5_2 k1_b5_3 g1_b5_3 e1_0 B1 z1; rintro w' ⟨h0, h1, h2, h3, h4, h5, h6, h7, h8, h9, h10, h11, h12, h13, h14, h15, h16⟩; exact c9 _
    refine obe_val (by rfl) ?_ ?_
    · clear k1_b4_0 g1_b4_0 k1_b4_1 g1_b4_1 k1_b4_2 g1_b4_2 k1_b4_3 g1_b4_3 k1_b5_0 g1_b5_0 k1_b5_1 g1_b5_1 k1_b5_2 g1_b5_2 k1_b5_3 g1_b5_3 e1_0 B1 z1; intro f hf; have u5 : f 5 = (.pointer (some ⟨w.heap.size + 1, 0, none⟩)) := (by rw [← hf]; rfl); clear hf; rintro w' ⟨h0, h1, h2, h3, h4, h5, h6, h7, h8, h9, h10, h11, h12, h13, h14, h15, h16⟩; go_simp; try exact IntWalk.i64_in _ (by omega)
    refine obe_val (by rfl) ?_ ?_
    · clear k1_b4_0 g1_b4_0 k1_b4_1 g1_b4_1 k1_b4_2 g1_b4_2 k1_b4_3 g1_b4_3 k1_b5_0 g1_b5_0 k1_b5_1 g1_b5_1 k1_b5_2 g1_b5_2 k1_b5_3 g1_b5_3 e1_0 B1 z1; intro f hf; have u4 : f 4 = (.pointer (some ⟨w.heap.size, 0, none⟩)) := (by rw [← hf]; rfl); clear hf; rintro w' ⟨h0, h1, h2, h3, h4, h5, h6, h7, h8, h9, h10, h11, h12, h13, h14, h15, h16⟩; go_simp; try exact IntWalk.i64_in _ (by omega)
    refine obe_call (by rfl) ?_ ?_ ?_
    · clear k1_b4_0 g1_b4_0 k1_b4_1 g1_b4_1 k1_b4_2 g1_b4_2 k1_b4_3 g1_b4_3 k1_b5_0 g1_b5_0 k1_b5_1 g1_b5_1 k1_b5_2 g1_b5_2 k1_b5_3 g1_b5_3 e1_0 B1 z1; intro f hf; have u10 : f 10 = (.agg #[.int .u8 s, .int .u8 t, .int .u8 u, .int .u8 d]) := (by rw [← hf]; rfl); have u11 : f 11 = (.agg #[.int .u8 r, .int .u8 g, .int .u8 b, .int .u8 a]) := (by rw [← hf]; rfl); clear hf; intro w' _; simp only [execOp, resolve, invoke, rhoF_tmp, rhoF_func, rhoF_const, u10, u11, List.map_toArray, List.map_cons, List.map_nil]; go_simp
    · clear k1_b4_0 g1_b4_0 k1_b4_1 g1_b4_1 k1_b4_2 g1_b4_2 k1_b4_3 g1_b4_3 k1_b5_0 g1_b5_0 k1_b5_1 g1_b5_1 k1_b5_2 g1_b5_2 k1_b5_3 g1_b5_3 e1_0 B1 z1; rintro w' ⟨h0, h1, h2, h3, h4, h5, h6, h7, h8, h9, h10, h11, h12, h13, h14, h15, h16⟩; exact c4 _
    refine obe_val (by rfl) ?_ ?_
    · clear k1_b4_0 g1_b4_0 k1_b4_1 g1_b4_1 k1_b4_2 g1_b4_2 k1_b4_3 g1_b4_3 k1_b5_0 g1_b5_0 k1_b5_1 g1_b5_1 k1_b5_2 g1_b5_2 k1_b5_3 g1_b5_3 e1_0 B1 z1; intro f hf; have u9 : f 9 = (.agg #[.int .u8 y0, .int .u8 y1, .int .u8 y2, .int .u8 z]) := (by rw [← hf]; rfl); have u12 : f 12 = (.agg #[.int .u8 y0, .int .u8 y1, .int .u8 y2, .int .u8 z]) := (by rw [← hf]; rfl); clear hf; rintro w' ⟨h0, h1, h2, h3, h4, h5, h6, h7, h8, h9, h10, h11, h12, h13, h14, h15, h16⟩; go_simp; try exact IntWalk.i64_in _ (by omega)
    refine obe_nil ?_
    rintro w2 ⟨h0, h1, h2, h3, h4, h5, h6, h7, h8, h9, h10, h11, h12, h13, h14, h15, h16⟩ hb2 hF
    (try simp only [List.nil_append, List.append_nil, List.cons_append] at hF)
    simp only [puts, putD, Act.put, List.setIfInBounds_toArray, List.set_cons_zero, List.set_cons_succ]
    clear hF
    have k2_b4_0 := bcs hb2 k1_b4_0
    have g2_b4_0 := bfs hb2 k1_b4_0 g1_b4_0
    have k2_b4_1 := bcs hb2 k1_b4_1
    have g2_b4_1 := bfs hb2 k1_b4_1 g1_b4_1
    have k2_b4_2 := bcs hb2 k1_b4_2
    have g2_b4_2 := bfs hb2 k1_b4_2 g1_b4_2
    have k2_b4_3 := bcs hb2 k1_b4_3
    have g2_b4_3 := bfs hb2 k1_b4_3 g1_b4_3
    have k2_b5_0 := bcs hb2 k1_b5_0
    have g2_b5_0 := bfs hb2 k1_b5_0 g1_b5_0
    have k2_b5_1 := bcs hb2 k1_b5_1
    have g2_b5_1 := bfs hb2 k1_b5_1 g1_b5_1
    have k2_b5_2 := bcs hb2 k1_b5_2
    have g2_b5_2 := bfs hb2 k1_b5_2 g1_b5_2
    have k2_b5_3 := bcs hb2 k1_b5_3
    have g2_b5_3 := bfs hb2 k1_b5_3 g1_b5_3
    clear h0 h1 h2 h3 h4 h5 h6 h7 h8 h9 h10 h11 h12 h13 h14 h15 h16
    have B2 := bel_step B1 hb2
    have z2 := Nat.le_trans z1 hb2.size
    have e2_0 := Nm.below hN B2
    clear hb2
    (try clear B1)
    (try clear z1)
    (try clear k1_b4_0)
    (try clear g1_b4_0)
    (try clear k1_b4_1)
    (try clear g1_b4_1)
    (try clear k1_b4_2)
    (try clear g1_b4_2)
    (try clear k1_b4_3)
    (try clear g1_b4_3)
    (try clear k1_b5_0)
    (try clear g1_b5_0)
    (try clear k1_b5_1)
    (try clear g1_b5_1)
    (try clear k1_b5_2)
    (try clear g1_b5_2)
    (try clear k1_b5_3)
    (try clear g1_b5_3)
    (try clear e1_0)
    (try clear q1_b4)
    (try clear x1_b4)
    (try clear y1_b4)
    (try clear q1_b5)
    (try clear x1_b5)
    (try clear y1_b5)
    have q2_b4 : w.heap.size < w2.heap.size := qlt k2_b4_0
    have x2_b4 : ¬ w.heap.size = w2.heap.size := qne k2_b4_0
    have y2_b4 : ¬ w2.heap.size = w.heap.size := fun h => qne k2_b4_0 h.symm
    have q2_b5 : w.heap.size + 1 < w2.heap.size := qlt k2_b5_0
    have x2_b5 : ¬ w.heap.size + 1 = w2.heap.size := qne k2_b5_0
    have y2_b5 : ¬ w2.heap.size = w.heap.size + 1 := fun h => qne k2_b5_0 h.symm
    unfold wpList
    go_wp2
    refine wp_region_env (fun w' => w'.cell? ⟨w.heap.size, 0, none⟩ = some (.int .u8 r) ∧ w'.frozen? ⟨w.heap.size, 0, none⟩ = false ∧ w'.cell? ⟨w.heap.size, 1, none⟩ = some (.int .u8 g) ∧ w'.frozen? ⟨w.heap.size, 1, none⟩ = false ∧ w'.cell? ⟨w.heap.size, 2, none⟩ = some (.int .u8 b) ∧ w'.frozen? ⟨w.heap.size, 2, none⟩ = false ∧ w'.cell? ⟨w.heap.size, 3, none⟩ = some (.int .u8 a) ∧ w'.frozen? ⟨w.heap.size, 3, none⟩ = false ∧ w'.cell? ⟨w.heap.size + 1, 0, none⟩ = some (.int .u8 s) ∧ w'.frozen? ⟨w.heap.size + 1, 0, none⟩ = false ∧ w'.cell? ⟨w.heap.size + 1, 1, none⟩ = some (.int .u8 t) ∧ w'.frozen? ⟨w.heap.size + 1, 1, none⟩ = false ∧ w'.cell? ⟨w.heap.size + 1, 2, none⟩ = some (.int .u8 u) ∧ w'.frozen? ⟨w.heap.size + 1, 2, none⟩ = false ∧ w'.cell? ⟨w.heap.size + 1, 3, none⟩ = some (.int .u8 d) ∧ w'.frozen? ⟨w.heap.size + 1, 3, none⟩ = false ∧ Nm w') (fun W => W.cell? ⟨w.heap.size, 0, none⟩ = some (.int .u8 r) ∧ W.frozen? ⟨w.heap.size, 0, none⟩ = false ∧ W.cell? ⟨w.heap.size, 1, none⟩ = some (.int .u8 g) ∧ W.frozen? ⟨w.heap.size, 1, none⟩ = false ∧ W.cell? ⟨w.heap.size, 2, none⟩ = some (.int .u8 b) ∧ W.frozen? ⟨w.heap.size, 2, none⟩ = false ∧ W.cell? ⟨w.heap.size, 3, none⟩ = some (.int .u8 a) ∧ W.frozen? ⟨w.heap.size, 3, none⟩ = false ∧ W.cell? ⟨w.heap.size + 1, 0, none⟩ = some (.int .u8 s) ∧ W.frozen? ⟨w.heap.size + 1, 0, none⟩ = false ∧ W.cell? ⟨w.heap.size + 1, 1, none⟩ = some (.int .u8 t) ∧ W.frozen? ⟨w.heap.size + 1, 1, none⟩ = false ∧ W.cell? ⟨w.heap.size + 1, 2, none⟩ = some (.int .u8 u) ∧ W.frozen? ⟨w.heap.size + 1, 2, none⟩ = false ∧ W.cell? ⟨w.heap.size + 1, 3, none⟩ = some (.int .u8 d) ∧ W.frozen? ⟨w.heap.size + 1, 3, none⟩ = false ∧ Nm W ∧ Below w.heap.size w W ∧ w.heap.size + 1 + 1 ≤ W.heap.size) 13 35 [.val (.int .i64 6), .val (.agg #[.int .u8 r, .int .u8 g, .int .u8 b, .int .u8 a]), .val (.agg #[.int .u8 s, .int .u8 t, .int .u8 u, .int .u8 d]), .call 23 #[.int .i64 6, .agg #[.int .u8 r, .int .u8 g, .int .u8 b, .int .u8 a], .agg #[.int .u8 s, .int .u8 t, .int .u8 u, .int .u8 d]] (.agg #[.int .u8 q0, .int .u8 q1, .int .u8 q2, .int .u8 z]), .val (.int .i64 6), .val (.agg #[.int .u8 s, .int .u8 t, .int .u8 u, .int .u8 d]), .val (.agg #[.int .u8 r, .int .u8 g, .int .u8 b, .int .u8 a]), .call 23 #[.int .i64 6, .agg #[.int .u8 s, .int .u8 t, .int .u8 u, .int .u8 d], .agg #[.int .u8 r, .int .u8 g, .int .u8 b, .int .u8 a]] (.agg #[.int .u8 q0, .int .u8 q1, .int .u8 q2, .int .u8 z]), .val (.bool true), .val (.bool true), .call 20 #[] (.bool true), .val (.bool true), .val (.bool true)] (by kernel_rfl) (by kernel_rfl) rfl (by kernel_rfl) (by rintro w1 w2 ⟨h0, h1, h2, h3, h4, h5, h6, h7, h8, h9, h10, h11, h12, h13, h14, h15, h16⟩ hb; exact ⟨bcs hb h0, bfs hb h0 h1, bcs hb h2, bfs hb h2 h3, bcs hb h4, bfs hb h4 h5, bcs hb h6, bfs hb h6 h7, bcs hb h8, bfs hb h8 h9, bcs hb h10, bfs hb h10 h11, bcs hb h12, bfs hb h12 h13, bcs hb h14, bfs hb h14 h15, Nm.below h16 hb⟩) ⟨by first | with_reducible assumption | go_simp, by first | with_reducible assumption | go_simp, by first | with_reducible assumption | go_simp, by first | with_reducible assumption | go_simp, by first | with_reducible assumption | go_simp, by first | with_reducible assumption | go_simp, by first | with_reducible assumption | go_simp, by first | with_reducible assumption | go_simp, by first | with_reducible assumption | go_simp, by first | with_reducible assumption | go_simp, by first | with_reducible assumption | go_simp, by first | with_reducible assumption | go_simp, by first | with_reducible assumption | go_simp, by first | with_reducible assumption | go_simp, by first | with_reducible assumption | go_simp, by first | with_reducible assumption | go_simp, Nm.below hN (by repeat (first | with_reducible exact Below.refl _ _ | with_reducible exact B2 | with_reducible apply below_drewN | with_reducible apply Below.drew | (with_reducible refine Below.alloc ?_ (by first | (simp; done) | (simp; omega) | omega) _) | (with_reducible refine Below.setCell ?_ (by first | (simp; done) | (simp; omega) | omega) _))), by repeat (first | with_reducible exact Below.refl _ _ | with_reducible exact B2 | with_reducible apply below_drewN | with_reducible apply Below.drew | (with_reducible refine Below.alloc ?_ (by first | (simp; done) | (simp; omega) | omega) _) | (with_reducible refine Below.setCell ?_ (by first | (simp; done) | (simp; omega) | omega) _)), by first | with_reducible assumption | (simp; done) | (simp; omega)⟩ ?_ ?_
    · rintro W ⟨k3_b4_0, g3_b4_0, k3_b4_1, g3_b4_1, k3_b4_2, g3_b4_2, k3_b4_3, g3_b4_3, k3_b5_0, g3_b5_0, k3_b5_1, g3_b5_1, k3_b5_2, g3_b5_2, k3_b5_3, g3_b5_3, e3_0, B3, z3⟩; exact ⟨k3_b4_0, g3_b4_0, k3_b4_1, g3_b4_1, k3_b4_2, g3_b4_2, k3_b4_3, g3_b4_3, k3_b5_0, g3_b5_0, k3_b5_1, g3_b5_1, k3_b5_2, g3_b5_2, k3_b5_3, g3_b5_3, e3_0⟩
    (try clear B2)
    (try clear z2)
    (try clear k2_b4_0)
    (try clear g2_b4_0)
    (try clear k2_b4_1)
    (try clear g2_b4_1)
    (try clear k2_b4_2)
    (try clear g2_b4_2)
    (try clear k2_b4_3)
    (try clear g2_b4_3)
    (try clear k2_b5_0)
    (try clear g2_b5_0)
    (try clear k2_b5_1)
    (try clear g2_b5_1)
    (try clear k2_b5_2)
    (try clear g2_b5_2)
    (try clear k2_b5_3)
    (try clear g2_b5_3)
    (try clear e2_0)
    (try clear q2_b4)
    (try clear x2_b4)
    (try clear y2_b4)
    (try clear q2_b5)
    (try clear x2_b5)
    (try clear y2_b5)
    rintro w3 ⟨k3_b4_0, g3_b4_0, k3_b4_1, g3_b4_1, k3_b4_2, g3_b4_2, k3_b4_3, g3_b4_3, k3_b5_0, g3_b5_0, k3_b5_1, g3_b5_1, k3_b5_2, g3_b5_2, k3_b5_3, g3_b5_3, e3_0, B3, z3⟩ gg
    simp only [List.take_succ_cons, List.take_zero, List.drop_succ_cons, List.drop_zero, List.cons_append, List.nil_append, List.append_nil]
    refine obe_val (by rfl) ?_ ?_
    · clear k3_b4_0 g3_b4_0 k3_b4_1 g3_b4_1 k3_b4_2 g3_b4_2 k3_b4_3 g3_b4_3 k3_b5_0 g3_b5_0 k3_b5_1 g3_b5_1 k3_b5_2 g3_b5_2 k3_b5_3 g3_b5_3 e3_0 B3 z3; intro f hf; have u0 : f 0 = (.int .i64 6) := (by rw [← hf]; rfl); clear hf; rintro w' ⟨h0, h1, h2, h3, h4, h5, h6, h7, h8, h9, h10, h11, h12, h13, h14, h15, h16⟩; go_simp; try exact IntWalk.i64_in _ (by omega)
    refine obe_val (by rfl) ?_ ?_
    · clear k3_b4_0 g3_b4_0 k3_b4_1 g3_b4_1 k3_b4_2 g3_b4_2 k3_b4_3 g3_b4_3 k3_b5_0 g3_b5_0 k3_b5_1 g3_b5_1 k3_b5_2 g3_b5_2 k3_b5_3 g3_b5_3 e3_0 B3 z3; intro f hf; have u4 : f 4 = (.pointer (some ⟨w.heap.size, 0, none⟩)) := (by rw [← hf]; rfl); clear hf; rintro w' ⟨h0, h1, h2, h3, h4, h5, h6, h7, h8, h9, h10, h11, h12, h13, h14, h15, h16⟩; go_simp; try exact IntWalk.i64_in _ (by omega)
    refine obe_val (by rfl) ?_ ?_
    · clear k3_b4_0 g3_b4_0 k3_b4_1 g3_b4_1 k3_b4_2 g3_b4_2 k3_b4_3 g3_b4_3 k3_b5_0 g3_b5_0 k3_b5_1 g3_b5_1 k3_b5_2 g3_b5_2 k3_b5_3 g3_b5_3 e3_0 B3 z3; intro f hf; have u5 : f 5 = (.pointer (some ⟨w.heap.size + 1, 0, none⟩)) := (by rw [← hf]; rfl); clear hf; rintro w' ⟨h0, h1, h2, h3, h4, h5, h6, h7, h8, h9, h10, h11, h12, h13, h14, h15, h16⟩; go_simp; try exact IntWalk.i64_in _ (by omega)
    refine obe_call (by rfl) ?_ ?_ ?_
    · clear k3_b4_0 g3_b4_0 k3_b4_1 g3_b4_1 k3_b4_2 g3_b4_2 k3_b4_3 g3_b4_3 k3_b5_0 g3_b5_0 k3_b5_1 g3_b5_1 k3_b5_2 g3_b5_2 k3_b5_3 g3_b5_3 e3_0 B3 z3; intro f hf; have u22 : f 22 = (.int .i64 6) := (by rw [← hf]; rfl); have u23 : f 23 = (.agg #[.int .u8 r, .int .u8 g, .int .u8 b, .int .u8 a]) := (by rw [← hf]; rfl); have u24 : f 24 = (.agg #[.int .u8 s, .int .u8 t, .int .u8 u, .int .u8 d]) := (by rw [← hf]; rfl); clear hf; intro w' _; simp only [execOp, resolve, invoke, rhoF_tmp, rhoF_func, rhoF_const, u22, u23, u24, List.map_toArray, List.map_cons, List.map_nil]; go_simp
    · clear k3_b4_0 g3_b4_0 k3_b4_1 g3_b4_1 k3_b4_2 g3_b4_2 k3_b4_3 g3_b4_3 k3_b5_0 g3_b5_0 k3_b5_1 g3_b5_1 k3_b5_2 g3_b5_2 k3_b5_3 g3_b5_3 e3_0 B3 z3; rintro w' ⟨h0, h1, h2, h3, h4, h5, h6, h7, h8, h9, h10, h11, h12, h13, h14, h15, h16⟩; exact e1 _
    refine obe_val (by rfl) ?_ ?_
    · clear k3_b4_0 g3_b4_0 k3_b4_1 g3_b4_1 k3_b4_2 g3_b4_2 k3_b4_3 g3_b4_3 k3_b5_0 g3_b5_0 k3_b5_1 g3_b5_1 k3_b5_2 g3_b5_2 k3_b5_3 g3_b5_3 e3_0 B3 z3; intro f hf; have u0 : f 0 = (.int .i64 6) := (by rw [← hf]; rfl); clear hf; rintro w' ⟨h0, h1, h2, h3, h4, h5, h6, h7, h8, h9, h10, h11, h12, h13, h14, h15, h16⟩; go_simp; try exact IntWalk.i64_in _ (by omega)
    refine obe_val (by rfl) ?_ ?_
    · clear k3_b4_0 g3_b4_0 k3_b4_1 g3_b4_1 k3_b4_2 g3_b4_2 k3_b4_3 g3_b4_3 k3_b5_0 g3_b5_0 k3_b5_1 g3_b5_1 k3_b5_2 g3_b5_2 k3_b5_3 g3_b5_3 e3_0 B3 z3; intro f hf; have u5 : f 5 = (.pointer (some ⟨w.heap.size + 1, 0, none⟩)) := (by rw [← hf]; rfl); clear hf; rintro w' ⟨h0, h1, h2, h3, h4, h5, h6, h7, h8, h9, h10, h11, h12, h13, h14, h15, h16⟩; go_simp; try exact IntWalk.i64_in _ (by omega)
    refine obe_val (by rfl) ?_ ?_
    · clear k3_b4_0 g3_b4_0 k3_b4_1 g3_b4_1 k3_b4_2 g3_b4_2 k3_b4_3 g3_b4_3 k3_b5_0 g3_b5_0 k3_b5_1 g3_b5_1 k3_b5_2 g3_b5_2 k3_b5_3 g3_b5_3 e3_0 B3 z3; intro f hf; have u4 : f 4 = (.pointer (some ⟨w.heap.size, 0, none⟩)) := (by rw [← hf]; rfl); clear hf; rintro w' ⟨h0, h1, h2, h3, h4, h5, h6, h7, h8, h9, h10, h11, h12, h13, h14, h15, h16⟩; go_simp; try exact IntWalk.i64_in _ (by omega)
    refine obe_call (by rfl) ?_ ?_ ?_
    · clear k3_b4_0 g3_b4_0 k3_b4_1 g3_b4_1 k3_b4_2 g3_b4_2 k3_b4_3 g3_b4_3 k3_b5_0 g3_b5_0 k3_b5_1 g3_b5_1 k3_b5_2 g3_b5_2 k3_b5_3 g3_b5_3 e3_0 B3 z3; intro f hf; have u26 : f 26 = (.int .i64 6) := (by rw [← hf]; rfl); have u27 : f 27 = (.agg #[.int .u8 s, .int .u8 t, .int .u8 u, .int .u8 d]) := (by rw [← hf]; rfl); have u28 : f 28 = (.agg #[.int .u8 r, .int .u8 g, .int .u8 b, .int .u8 a]) := (by rw [← hf]; rfl); clear hf; intro w' _; simp only [execOp, resolve, invoke, rhoF_tmp, rhoF_func, rhoF_const, u26, u27, u28, List.map_toArray, List.map_cons, List.map_nil]; go_simp
    · clear k3_b4_0 g3_b4_0 k3_b4_1 g3_b4_1 k3_b4_2 g3_b4_2 k3_b4_3 g3_b4_3 k3_b5_0 g3_b5_0 k3_b5_1 g3_b5_1 k3_b5_2 g3_b5_2 k3_b5_3 g3_b5_3 e3_0 B3 z3; rintro w' ⟨h0, h1, h2, h3, h4, h5, h6, h7, h8, h9, h10, h11, h12, h13, h14, h15, h16⟩; exact e2 _
    refine obe_val (by rfl) ?_ ?_
    · clear k3_b4_0 g3_b4_0 k3_b4_1 g3_b4_1 k3_b4_2 g3_b4_2 k3_b4_3 g3_b4_3 k3_b5_0 g3_b5_0 k3_b5_1 g3_b5_1 k3_b5_2 g3_b5_2 k3_b5_3 g3_b5_3 e3_0 B3 z3; intro f hf; have u25 : f 25 = (.agg #[.int .u8 q0, .int .u8 q1, .int .u8 q2, .int .u8 z]) := (by rw [← hf]; rfl); have u29 : f 29 = (.agg #[.int .u8 q0, .int .u8 q1, .int .u8 q2, .int .u8 z]) := (by rw [← hf]; rfl); clear hf; rintro w' ⟨h0, h1, h2, h3, h4, h5, h6, h7, h8, h9, h10, h11, h12, h13, h14, h15, h16⟩; go_simp; try exact IntWalk.i64_in _ (by omega)
    refine obe_val (by rfl) ?_ ?_
    · clear k3_b4_0 g3_b4_0 k3_b4_1 g3_b4_1 k3_b4_2 g3_b4_2 k3_b4_3 g3_b4_3 k3_b5_0 g3_b5_0 k3_b5_1 g3_b5_1 k3_b5_2 g3_b5_2 k3_b5_3 g3_b5_3 e3_0 B3 z3; intro f hf; have u30 : f 30 = (.bool true) := (by rw [← hf]; rfl); clear hf; rintro w' ⟨h0, h1, h2, h3, h4, h5, h6, h7, h8, h9, h10, h11, h12, h13, h14, h15, h16⟩; go_simp; try exact IntWalk.i64_in _ (by omega)
    refine obe_call (by rfl) ?_ ?_ ?_
    · clear k3_b4_0 g3_b4_0 k3_b4_1 g3_b4_1 k3_b4_2 g3_b4_2 k3_b4_3 g3_b4_3 k3_b5_0 g3_b5_0 k3_b5_1 g3_b5_1 k3_b5_2 g3_b5_2 k3_b5_3 g3_b5_3 e3_0 B3 z3; intro f hf; clear hf; intro w' _; simp only [execOp, resolve, invoke, rhoF_tmp, rhoF_func, rhoF_const, List.map_toArray, List.map_cons, List.map_nil]; go_simp
    · clear k3_b4_0 g3_b4_0 k3_b4_1 g3_b4_1 k3_b4_2 g3_b4_2 k3_b4_3 g3_b4_3 k3_b5_0 g3_b5_0 k3_b5_1 g3_b5_1 k3_b5_2 g3_b5_2 k3_b5_3 g3_b5_3 e3_0 B3 z3; rintro w' ⟨h0, h1, h2, h3, h4, h5, h6, h7, h8, h9, h10, h11, h12, h13, h14, h15, h16⟩; exact bex_any _ (by assumption)
    refine obe_val (by rfl) ?_ ?_
    · clear k3_b4_0 g3_b4_0 k3_b4_1 g3_b4_1 k3_b4_2 g3_b4_2 k3_b4_3 g3_b4_3 k3_b5_0 g3_b5_0 k3_b5_1 g3_b5_1 k3_b5_2 g3_b5_2 k3_b5_3 g3_b5_3 e3_0 B3 z3; intro f hf; have u31 : f 31 = (.bool true) := (by rw [← hf]; rfl); have u32 : f 32 = (.bool true) := (by rw [← hf]; rfl); clear hf; rintro w' ⟨h0, h1, h2, h3, h4, h5, h6, h7, h8, h9, h10, h11, h12, h13, h14, h15, h16⟩; go_simp; try exact IntWalk.i64_in _ (by omega)
    refine obe_val (by rfl) ?_ ?_
    · clear k3_b4_0 g3_b4_0 k3_b4_1 g3_b4_1 k3_b4_2 g3_b4_2 k3_b4_3 g3_b4_3 k3_b5_0 g3_b5_0 k3_b5_1 g3_b5_1 k3_b5_2 g3_b5_2 k3_b5_3 g3_b5_3 e3_0 B3 z3; intro f hf; have u33 : f 33 = (.bool true) := (by rw [← hf]; rfl); clear hf; rintro w' ⟨h0, h1, h2, h3, h4, h5, h6, h7, h8, h9, h10, h11, h12, h13, h14, h15, h16⟩; go_simp; try exact IntWalk.i64_in _ (by omega)
    refine obe_nil ?_
    rintro w4 ⟨h0, h1, h2, h3, h4, h5, h6, h7, h8, h9, h10, h11, h12, h13, h14, h15, h16⟩ hb4 hF
    (try simp only [List.nil_append, List.append_nil, List.cons_append] at hF)
    simp only [puts, putD, Act.put, List.setIfInBounds_toArray, List.set_cons_zero, List.set_cons_succ]
    clear hF
    have k4_b4_0 := bcs hb4 k3_b4_0
    have g4_b4_0 := bfs hb4 k3_b4_0 g3_b4_0
    have k4_b4_1 := bcs hb4 k3_b4_1
    have g4_b4_1 := bfs hb4 k3_b4_1 g3_b4_1
    have k4_b4_2 := bcs hb4 k3_b4_2
    have g4_b4_2 := bfs hb4 k3_b4_2 g3_b4_2
    have k4_b4_3 := bcs hb4 k3_b4_3
    have g4_b4_3 := bfs hb4 k3_b4_3 g3_b4_3
    have k4_b5_0 := bcs hb4 k3_b5_0
    have g4_b5_0 := bfs hb4 k3_b5_0 g3_b5_0
    have k4_b5_1 := bcs hb4 k3_b5_1
    have g4_b5_1 := bfs hb4 k3_b5_1 g3_b5_1
    have k4_b5_2 := bcs hb4 k3_b5_2
    have g4_b5_2 := bfs hb4 k3_b5_2 g3_b5_2
    have k4_b5_3 := bcs hb4 k3_b5_3
    have g4_b5_3 := bfs hb4 k3_b5_3 g3_b5_3
    clear h0 h1 h2 h3 h4 h5 h6 h7 h8 h9 h10 h11 h12 h13 h14 h15 h16
    have B4 := bel_step B3 hb4
    have z4 := Nat.le_trans z3 hb4.size
    have e4_0 := Nm.below hN B4
    clear hb4
    (try clear B3)
    (try clear z3)
    (try clear k3_b4_0)
    (try clear g3_b4_0)
    (try clear k3_b4_1)
    (try clear g3_b4_1)
    (try clear k3_b4_2)
    (try clear g3_b4_2)
    (try clear k3_b4_3)
    (try clear g3_b4_3)
    (try clear k3_b5_0)
    (try clear g3_b5_0)
    (try clear k3_b5_1)
    (try clear g3_b5_1)
    (try clear k3_b5_2)
    (try clear g3_b5_2)
    (try clear k3_b5_3)
    (try clear g3_b5_3)
    (try clear e3_0)
    (try clear q3_b4)
    (try clear x3_b4)
    (try clear y3_b4)
    (try clear q3_b5)
    (try clear x3_b5)
    (try clear y3_b5)
    have q4_b4 : w.heap.size < w4.heap.size := qlt k4_b4_0
    have x4_b4 : ¬ w.heap.size = w4.heap.size := qne k4_b4_0
    have y4_b4 : ¬ w4.heap.size = w.heap.size := fun h => qne k4_b4_0 h.symm
    have q4_b5 : w.heap.size + 1 < w4.heap.size := qlt k4_b5_0
    have x4_b5 : ¬ w.heap.size + 1 = w4.heap.size := qne k4_b5_0
    have y4_b5 : ¬ w4.heap.size = w.heap.size + 1 := fun h => qne k4_b5_0 h.symm
    unfold wpList
    go_wp2
    go_ret
    refine ⟨rfl, ?_⟩
    repeat (first | with_reducible exact Below.refl _ _ | with_reducible exact B4 | with_reducible apply below_drewN | with_reducible apply Below.drew | (with_reducible refine Below.alloc ?_ (by first | (simp; done) | (simp; omega) | omega) _) | (with_reducible refine Below.setCell ?_ (by first | (simp; done) | (simp; omega) | omega) _))
  have n6 : (m == 6) = false := by simpa using k6
  clear k6
  by_cases k7 : m = 7
  · subst k7
    have e1 := fun w => blend_any 7 r g b a s t u d (by omega) (by omega) r0 r1 g0 g1 b0 b1 a0 a1 s0 s1 t0 t1 u0 u1 d0 d1 w
    have e2 := fun w => blend_any 7 s t u d r g b a (by omega) (by omega) s0 s1 t0 t1 u0 u1 d0 d1 r0 r1 g0 g1 b0 b1 a0 a1 w
    rw [bc_comm 7 (min r a) a (min s d) d (by omega), bc_comm 7 (min g a) a (min t d) d (by omega), bc_comm 7 (min b a) a (min u d) d (by omega), al_comm, hz] at e2
    rw [hz] at e1
    clear hz
    obtain ⟨q0, hq0⟩ : ∃ x, bc 7 (min r a) a (min s d) d = x := ⟨_, rfl⟩
    obtain ⟨q1, hq1⟩ : ∃ x, bc 7 (min g a) a (min t d) d = x := ⟨_, rfl⟩
    obtain ⟨q2, hq2⟩ : ∃ x, bc 7 (min b a) a (min u d) d = x := ⟨_, rfl⟩
    rw [hq0, hq1, hq2] at e1 e2
    clear hq0 hq1 hq2
    go_enter Tryd.func8, Tryd.ntmps8
    go_wp2
    refine wp_region_env (fun w' => w'.cell? ⟨w.heap.size, 0, none⟩ = some (.int .u8 r) ∧ w'.frozen? ⟨w.heap.size, 0, none⟩ = false ∧ w'.cell? ⟨w.heap.size, 1, none⟩ = some (.int .u8 g) ∧ w'.frozen? ⟨w.heap.size, 1, none⟩ = false ∧ w'.cell? ⟨w.heap.size, 2, none⟩ = some (.int .u8 b) ∧ w'.frozen? ⟨w.heap.size, 2, none⟩ = false ∧ w'.cell? ⟨w.heap.size, 3, none⟩ = some (.int .u8 a) ∧ w'.frozen? ⟨w.heap.size, 3, none⟩ = false ∧ w'.cell? ⟨w.heap.size + 1, 0, none⟩ = some (.int .u8 s) ∧ w'.frozen? ⟨w.heap.size + 1, 0, none⟩ = false ∧ w'.cell? ⟨w.heap.size + 1, 1, none⟩ = some (.int .u8 t) ∧ w'.frozen? ⟨w.heap.size + 1, 1, none⟩ = false ∧ w'.cell? ⟨w.heap.size + 1, 2, none⟩ = some (.int .u8 u) ∧ w'.frozen? ⟨w.heap.size + 1, 2, none⟩ = false ∧ w'.cell? ⟨w.heap.size + 1, 3, none⟩ = some (.int .u8 d) ∧ w'.frozen? ⟨w.heap.size + 1, 3, none⟩ = false ∧ Nm w') (fun W => W.cell? ⟨w.heap.size, 0, none⟩ = some (.int .u8 r) ∧ W.frozen? ⟨w.heap.size, 0, none⟩ = false ∧ W.cell? ⟨w.heap.size, 1, none⟩ = some (.int .u8 g) ∧ W.frozen? ⟨w.heap.size, 1, none⟩ = false ∧ W.cell? ⟨w.heap.size, 2, none⟩ = some (.int .u8 b) ∧ W.frozen? ⟨w.heap.size, 2, none⟩ = false ∧ W.cell? ⟨w.heap.size, 3, none⟩ = some (.int .u8 a) ∧ W.frozen? ⟨w.heap.size, 3, none⟩ = false ∧ W.cell? ⟨w.heap.size + 1, 0, none⟩ = some (.int .u8 s) ∧ W.frozen? ⟨w.heap.size + 1, 0, none⟩ = false ∧ W.cell? ⟨w.heap.size + 1, 1, none⟩ = some (.int .u8 t) ∧ W.frozen? ⟨w.heap.size + 1, 1, none⟩ = false ∧ W.cell? ⟨w.heap.size + 1, 2, none⟩ = some (.int .u8 u) ∧ W.frozen? ⟨w.heap.size + 1, 2, none⟩ = false ∧ W.cell? ⟨w.heap.size + 1, 3, none⟩ = some (.int .u8 d) ∧ W.frozen? ⟨w.heap.size + 1, 3, none⟩ = false ∧ Nm W ∧ Below w.heap.size w W ∧ w.heap.size + 1 + 1 ≤ W.heap.size) 7 35 [.val (.agg #[.int .u8 r, .int .u8 g, .int .u8 b, .int .u8 a]), .val (.agg #[.int .u8 s, .int .u8 t, .int .u8 u, .int .u8 d]), .call 23 #[.int .i64 9, .agg #[.int .u8 r, .int .u8 g, .int .u8 b, .int .u8 a], .agg #[.int .u8 s, .int .u8 t, .int .u8 u, .int .u8 d]] (.agg #[.int .u8 y0, .int .u8 y1, .int .u8 y2, .int .u8 z]), .val (.agg #[.int .u8 s, .int .u8 t, .int .u8 u, .int .u8 d]), .val (.agg #[.int .u8 r, .int .u8 g, .int .u8 b, .int .u8 a]), .call 23 #[.int .i64 4, .agg #[.int .u8 s, .int .u8 t, .int .u8 u, .int .u8 d], .agg #[.int .u8 r, .int .u8 g, .int .u8 b, .int .u8 a]] (.agg #[.int .u8 y0, .int .u8 y1, .int .u8 y2, .int .u8 z]), .val (.bool false)] (by kernel_rfl) (by kernel_rfl) rfl (by kernel_rfl) (by rintro w1 w2 ⟨h0, h1, h2, h3, h4, h5, h6, h7, h8, h9, h10, h11, h12, h13, h14, h15, h16⟩ hb; exact ⟨bcs hb h0, bfs hb h0 h1, bcs hb h2, bfs hb h2 h3, bcs hb h4, bfs hb h4 h5, bcs hb h6, bfs hb h6 h7, bcs hb h8, bfs hb h8 h9, bcs hb h10, bfs hb h10 h11, bcs hb h12, bfs hb h12 h13, bcs hb h14, bfs hb h14 h15, Nm.below h16 hb⟩) ⟨by first | with_reducible assumption | go_simp, by first | with_reducible assumption | go_simp, by first | with_reducible assumption | go_simp, by first | with_reducible assumption | go_simp, by first | with_reducible assumption | go_simp, by first | with_reducible assumption | go_simp, by first | with_reducible assumption | go_simp, by first | with_reducible assumption | go_simp, by first | with_reducible assumption | go_simp, by first | with_reducible assumption | go_simp, by first | with_reducible assumption | go_simp, by first | with_reducible assumption | go_simp, by first | with_reducible assumption | go_simp, by first | with_reducible assumption | go_simp, by first | with_reducible assumption | go_simp, by first | with_reducible assumption | go_simp, Nm.below hN (by repeat (first | with_reducible exact Below.refl _ _ | fail | with_reducible apply below_drewN | with_reducible apply Below.drew | (with_reducible refine Below.alloc ?_ (by first | (simp; done) | (simp; omega) | omega) _) | (with_reducible refine Below.setCell ?_ (by first | (simp; done) | (simp; omega) | omega) _))), by repeat (first | with_reducible exact Below.refl _ _ | fail | with_reducible apply below_drewN | with_reducible apply Below.drew | (with_reducible refine Below.alloc ?_ (by first | (simp; done) | (simp; omega) | omega) _) | (with_reducible refine Below.setCell ?_ (by first | (simp; done) | (simp; omega) | omega) _)), by first | with_reducible assumption | (simp; done) | (simp; omega)⟩ ?_ ?_
    · rintro W ⟨k1_b4_0, g1_b4_0, k1_b4_1, g1_b4_1, k1_b4_2, g1_b4_2, k1_b4_3, g1_b4_3, k1_b5_0, g1_b5_0, k1_b5_1, g1_b5_1, k1_b5_2, g1_b5_2, k1_b5_3, g1_b5_3, e1_0, B1, z1⟩; exact ⟨k1_b4_0, g1_b4_0, k1_b4_1, g1_b4_1, k1_b4_2, g1_b4_2, k1_b4_3, g1_b4_3, k1_b5_0, g1_b5_0, k1_b5_1, g1_b5_1, k1_b5_2, g1_b5_2, k1_b5_3, g1_b5_3, e1_0⟩
    rintro w1 ⟨k1_b4_0, g1_b4_0, k1_b4_1, g1_b4_1, k1_b4_2, g1_b4_2, k1_b4_3, g1_b4_3, k1_b5_0, g1_b5_0, k1_b5_1, g1_b5_1, k1_b5_2, g1_b5_2, k1_b5_3, g1_b5_3, e1_0, B1, z1⟩ gg
    simp only [List.take_succ_cons, List.take_zero, List.drop_succ_cons, List.drop_zero, List.cons_append, List.nil_append, List.append_nil]
    refine obe_val (by rfl) ?_ ?_
    · clear k1_b4_0 g1_b4_0 k1_b4_1 g1_b4_1 k1_b4_2 g1_b4_2 k1_b4_3 g1_b4_3 k1_b5_0 g1_b5_0 k1_b5_1 g1_b5_1 k1_b5_2 g1_b5_2 k1_b5_3 g1_b5_3 e1_0 B1 z1; intro f hf; have u4 : f 4 = (.pointer (some ⟨w.heap.size, 0, none⟩)) := (by rw [← hf]; rfl); clear hf; rintro w' ⟨h0, h1, h2, h3, h4, h5, h6, h7, h8, h9, h10, h11, h12, h13, h14, h15, h16⟩; go_simp; try exact IntWalk.i64_in _ (by omega)
    refine obe_val (by rfl) ?_ ?_
    · clear k1_b4_0 g1_b4_0 k1_b4_1 g1_b4_1 k1_b4_2 g1_b4_2 k1_b4_3 g1_b4_3 k1_b5_0 g1_b5_0 k1_b5_1 g1_b5_1 k1_b5_2 g1_b5_2 k1_b5_3 g1_b5_3 e1_0 B1 z1; intro f hf; have u5 : f 5 = (.pointer (some ⟨w.heap.size + 1, 0, none⟩)) := (by rw [← hf]; rfl); clear hf; rintro w' ⟨h0, h1, h2, h3, h4, h5, h6, h7, h8, h9, h10, h11, h12, h13, h14, h15, h16⟩; go_simp; try exact IntWalk.i64_in _ (by omega)
    refine obe_call (by rfl) ?_ ?_ ?_
    · clear k1_b4_0 g1_b4_0 k1_b4_1 g1_b4_1 k1_b4_2 g1_b4_2 k1_b4_3 g1_b4_3 k1_b5_0 g1_b5_0 k1_b5_1 g1_b5_1 k1_b5_2 g1_b5_2 k1_b5_3 g1_b5_3 e1_0 B1 z1; intro f hf; have u7 : f 7 = (.agg #[.int .u8 r, .int .u8 g, .int .u8 b, .int .u8 a]) := (by rw [← hf]; rfl); have u8 : f 8 = (.agg #[.int .u8 s, .int .u8 t, .int .u8 u, .int .u8 d]) := (by rw [← hf]; rfl); clear hf; intro w' _; simp only [execOp, resolve, invoke, rhoF_tmp, rhoF_func, rhoF_const, u7, u8, List.map_toArray, List.map_cons, List.map_nil]; go_simp
    · clear k1_b4_0 g1_b4_0 k1_b4_1 g1_b4_1 k1_b4_2 g1_b4_2 k1_b4_3 g1_b4_3 k1_b5_0 g1_b5_0 k1_b5_1 g1_b5_1 k1_b5_2 g1_b5_2 k1_b5_3 g1_b5_3 e1_0 B1 z1; rintro w' ⟨h0, h1, h2, h3, h4, h5, h6, h7, h8, h9, h10, h11, h12, h13, h14, h15, h16⟩; exact c9 _
    refine obe_val (by rfl) ?_ ?_
    · clear k1_b4_0 g1_b4_0 k1_b4_1 g1_b4_1 k1_b4_2 g1_b4_2 k1_b4_3 g1_b4_3 k1_b5_0 g1_b5_0 k1_b5_1 g1_b5_1 k1_b5_2 g1_b5_2 k1_b5_3 g1_b5_3 e1_0 B1 z1; intro f hf; have u5 : f 5 = (.pointer (some ⟨w.heap.size + 1, 0, none⟩)) := (by rw [← hf]; rfl); clear hf; rintro w' ⟨h0, h1, h2, h3, h4, h5, h6, h7, h8, h9, h10, h11, h12, h13, h14, h15, h16⟩; go_simp; try exact IntWalk.i64_in _ (by omega)
    refine obe_val (by rfl) ?_ ?_
    · clear k1_b4_0 g1_b4_0 k1_b4_1 g1_b4_1 k1_b4_2 g1_b4_2 k1_b4_3 g1_b4_3 k1_b5_0 g1_b5_0 k1_b5_1 g1_b5_1 k1_b5_2 g1_b5_2 k1_b5_3 g1_b5_3 e1_0 B1 z1; intro f hf; have u4 : f 4 = (.pointer (some ⟨w.heap.size, 0, none⟩)) := (by rw [← hf]; rfl); clear hf; rintro w' ⟨h0, h1, h2, h3, h4, h5, h6, h7, h8, h9, h10, h11, h12, h13, h14, h15, h16⟩; go_simp; try exact IntWalk.i64_in _ (by omega)
    refine obe_call (by rfl) ?_ ?_ ?_
    · clear k1_b4_0 g1_b4_0 k1_b4_1 g1_b4_1 k1_b4_2 g1_b4_2 k1_b4_3 g1_b4_3 k1_b5_0 g1_b5_0 k1_b5_1 g1_b5_1 k1_b5_2 g1_b5_2 k1_b5_3 g1_b5_3 e1_0 B1 z1; intro f hf; have u10 : f 10 = (.agg #[.int .u8 s, .int .u8 t, .int .u8 u, .int .u8 d]) := (by rw [← hf]; rfl); have u11 : f 11 = (.agg #[.int .u8 r, .int .u8 g, .int .u8 b, .int .u8 a]) := (by rw [← hf]; rfl); clear hf; intro w' _; simp only [execOp, resolve, invoke, rhoF_tmp, rhoF_func, rhoF_const, u10, u11, List.map_toArray, List.map_cons, List.map_nil]; go_simp
    · clear k1_b4_0 g1_b4_0 k1_b4_1 g1_b4_1 k1_b4_2 g1_b4_2 k1_b4_3 g1_b4_3 k1_b5_0 g1_b5_0 k1_b5_1 g1_b5_1 k1_b5_2 g1_b5_2 k1_b5_3 g1_b5_3 e1_0 B1 z1; rintro w' ⟨h0, h1, h2, h3, h4, h5, h6, h7, h8, h9, h10, h11, h12, h13, h14, h15, h16⟩; exact c4 _
    refine obe_val (by rfl) ?_ ?_
    · clear k1_b4_0 g1_b4_0 k1_b4_1 g1_b4_1 k1_b4_2 g1_b4_2 k1_b4_3 g1_b4_3 k1_b5_0 g1_b5_0 k1_b5_1 g1_b5_1 k1_b5_2 g1_b5_2 k1_b5_3 g1_b5_3 e1_0 B1 z1; intro f hf; have u9 : f 9 = (.agg #[.int .u8 y0, .int .u8 y1, .int .u8 y2, .int .u8 z]) := (by rw [← hf]; rfl); have u12 : f 12 = (.agg #[.int .u8 y0, .int .u8 y1, .int .u8 y2, .int .u8 z]) := (by rw [← hf]; rfl); clear hf; rintro w' ⟨h0, h1, h2, h3, h4, h5, h6, h7, h8, h9, h10, h11, h12, h13, h14, h15, h16⟩; go_simp; try exact IntWalk.i64_in _ (by omega)
    refine obe_nil ?_
    rintro w2 ⟨h0, h1, h2, h3, h4, h5, h6, h7, h8, h9, h10, h11, h12, h13, h14, h15, h16⟩ hb2 hF
    (try simp only [List.nil_append, List.append_nil, List.cons_append] at hF)
    simp only [puts, putD, Act.put, List.setIfInBounds_toArray, List.set_cons_zero, List.set_cons_succ]
    clear hF
    have k2_b4_0 := bcs hb2 k1_b4_0
    have g2_b4_0 := bfs hb2 k1_b4_0 g1_b4_0
    have k2_b4_1 := bcs hb2 k1_b4_1
    have g2_b4_1 := bfs hb2 k1_b4_1 g1_b4_1
    have k2_b4_2 := bcs hb2 k1_b4_2
    have g2_b4_2 := bfs hb2 k1_b4_2 g1_b4_2
    have k2_b4_3 := bcs hb2 k1_b4_3
    have g2_b4_3 := bfs hb2 k1_b4_3 g1_b4_3
    have k2_b5_0 := bcs hb2 k1_b5_0
    have g2_b5_0 := bfs hb2 k1_b5_0 g1_b5_0
    have k2_b5_1 := bcs hb2 k1_b5_1
    have g2_b5_1 := bfs hb2 k1_b5_1 g1_b5_1
    have k2_b5_2 := bcs hb2 k1_b5_2
    have g2_b5_2 := bfs hb2 k1_b5_2 g1_b5_2
    have k2_b5_3 := bcs hb2 k1_b5_3
    have g2_b5_3 := bfs hb2 k1_b5_3 g1_b5_3
    clear h0 h1 h2 h3 h4 h5 h6 h7 h8 h9 h10 h11 h12 h13 h14 h15 h16
    have B2 := bel_step B1 hb2
    have z2 := Nat.le_trans z1 hb2.size
    have e2_0 := Nm.below hN B2
    clear hb2
    (try clear B1)
    (try clear z1)
    (try clear k1_b4_0)
    (try clear g1_b4_0)
    (try clear k1_b4_1)
    (try clear g1_b4_1)
    (try clear k1_b4_2)
    (try clear g1_b4_2)
    (try clear k1_b4_3)
    (try clear g1_b4_3)
    (try clear k1_b5_0)
    (try clear g1_b5_0)
    (try clear k1_b5_1)
    (try clear g1_b5_1)
    (try clear k1_b5_2)
    (try clear g1_b5_2)
    (try clear k1_b5_3)
    (try clear g1_b5_3)
    (try clear e1_0)
    (try clear q1_b4)
    (try clear x1_b4)
    (try clear y1_b4)
    (try clear q1_b5)
    (try clear x1_b5)
    (try clear y1_b5)
    have q2_b4 : w.heap.size < w2.heap.size := qlt k2_b4_0
    have x2_b4 : ¬ w.heap.size = w2.heap.size := qne k2_b4_0
    have y2_b4 : ¬ w2.heap.size = w.heap.size := fun h => qne k2_b4_0 h.symm
    have q2_b5 : w.heap.size + 1 < w2.heap.size := qlt k2_b5_0
    have x2_b5 : ¬ w.heap.size + 1 = w2.heap.size := qne k2_b5_0
    have y2_b5 : ¬ w2.heap.size = w.heap.size + 1 := fun h => qne k2_b5_0 h.symm
    unfold wpList
    go_wp2
    refine wp_region_env (fun w' => w'.cell? ⟨w.heap.size, 0, none⟩ = some (.int .u8 r) ∧ w'.frozen? ⟨w.heap.size, 0, none⟩ = false ∧ w'.cell? ⟨w.heap.size, 1, none⟩ = some (.int .u8 g) ∧ w'.frozen? ⟨w.heap.size, 1, none⟩ = false ∧ w'.cell? ⟨w.heap.size, 2, none⟩ = some (.int .u8 b) ∧ w'.frozen? ⟨w.heap.size, 2, none⟩ = false ∧ w'.cell? ⟨w.heap.size, 3, none⟩ = some (.int .u8 a) ∧ w'.frozen? ⟨w.heap.size, 3, none⟩ = false ∧ w'.cell? ⟨w.heap.size + 1, 0, none⟩ = some (.int .u8 s) ∧ w'.frozen? ⟨w.heap.size + 1, 0, none⟩ = false ∧ w'.cell? ⟨w.heap.size + 1, 1, none⟩ = some (.int .u8 t) ∧ w'.frozen? ⟨w.heap.size + 1, 1, none⟩ = false ∧ w'.cell? ⟨w.heap.size + 1, 2, none⟩ = some (.int .u8 u) ∧ w'.frozen? ⟨w.heap.size + 1, 2, none⟩ = false ∧ w'.cell? ⟨w.heap.size + 1, 3, none⟩ = some (.int .u8 d) ∧ w'.frozen? ⟨w.heap.size + 1, 3, none⟩ = false ∧ Nm w') (fun W => W.cell? ⟨w.heap.size, 0, none⟩ = some (.int .u8 r) ∧ W.frozen? ⟨w.heap.size, 0, none⟩ = false ∧ W.cell? ⟨w.heap.size, 1, none⟩ = some (.int .u8 g) ∧ W.frozen? ⟨w.heap.size, 1, none⟩ = false ∧ W.cell? ⟨w.heap.size, 2, none⟩ = some (.int .u8 b) ∧ W.frozen? ⟨w.heap.size, 2, none⟩ = false ∧ W.cell? ⟨w.heap.size, 3, none⟩ = some (.int .u8 a) ∧ W.frozen? ⟨w.heap.size, 3, none⟩ = false ∧ W.cell? ⟨w.heap.size + 1, 0, none⟩ = some (.int .u8 s) ∧ W.frozen? ⟨w.heap.size + 1, 0, none⟩ = false ∧ W.cell? ⟨w.heap.size + 1, 1, none⟩ = some (.int .u8 t) ∧ W.frozen? ⟨w.heap.size + 1, 1, none⟩ = false ∧ W.cell? ⟨w.heap.size + 1, 2, none⟩ = some (.int .u8 u) ∧ W.frozen? ⟨w.heap.size + 1, 2, none⟩ = false ∧ W.cell? ⟨w.heap.size + 1, 3, none⟩ = some (.int .u8 d) ∧ W.frozen? ⟨w.heap.size + 1, 3, none⟩ = false ∧ Nm W ∧ Below w.heap.size w W ∧ w.heap.size + 1 + 1 ≤ W.heap.size) 13 35 [.val (.int .i64 7), .val (.agg #[.int .u8 r, .int .u8 g, .int .u8 b, .int .u8 a]), .val (.agg #[.int .u8 s, .int .u8 t, .int .u8 u, .int .u8 d]), .call 23 #[.int .i64 7, .agg #[.int .u8 r, .int .u8 g, .int .u8 b, .int .u8 a], .agg #[.int .u8 s, .int .u8 t, .int .u8 u, .int .u8 d]] (.agg #[.int .u8 q0, .int .u8 q1, .int .u8 q2, .int .u8 z]), .val (.int .i64 7), .val (.agg #[.int .u8 s, .int .u8 t, .int .u8 u, .int .u8 d]), .val (.agg #[.int .u8 r, .int .u8 g, .int .u8 b, .int .u8 a]), .call 23 #[.int .i64 7, .agg #[.int .u8 s, .int .u8 t, .int .u8 u, .int .u8 d], .agg #[.int .u8 r, .int .u8 g, .int .u8 b, .int .u8 a]] (.agg #[.int .u8 q0, .int .u8 q1, .int .u8 q2, .int .u8 z]), .val (.bool true), .val (.bool true), .call 20 #[] (.bool true), .val (.bool true), .val (.bool true)] (by kernel_rfl) (by kernel_rfl) rfl (by kernel_rfl) (by rintro w1 w2 ⟨h0, h1, h2, h3, h4, h5, h6, h7, h8, h9, h10, h11, h12, h13, h14, h15, h16⟩ hb; exact ⟨bcs hb h0, bfs hb h0 h1, bcs hb h2, bfs hb h2 h3, bcs hb h4, bfs hb h4 h5, bcs hb h6, bfs hb h6 h7, bcs hb h8, bfs hb h8 h9, bcs hb h10, bfs hb h10 h11, bcs hb h12, bfs hb h12 h13, bcs hb h14, bfs hb h14 h15, Nm.below h16 hb⟩) ⟨by first | with_reducible assumption | go_simp, by first | with_reducible assumption | go_simp, by first | with_reducible assumption | go_simp, by first | with_reducible assumption | go_simp, by first | with_reducible assumption | go_simp, by first | with_reducible assumption | go_simp, by first | with_reducible assumption | go_simp, by first | with_reducible assumption | go_simp, by first | with_reducible assumption | go_simp, by first | with_reducible assumption | go_simp, by first | with_reducible assumption | go_simp, by first | with_reducible assumption | go_simp, by first | with_reducible assumption | go_simp, by first | with_reducible assumption | go_simp, by first | with_reducible assumption | go_simp, by first | with_reducible assumption | go_simp, Nm.below hN (by repeat (first | with_reducible exact Below.refl _ _ | with_reducible exact B2 | with_reducible apply below_drewN | with_reducible apply Below.drew | (with_reducible refine Below.alloc ?_ (by first | (simp; done) | (simp; omega) | omega) _) | (with_reducible refine Below.setCell ?_ (by first | (simp; done) | (simp; omega) | omega) _))), by repeat (first | with_reducible exact Below.refl _ _ | with_reducible exact B2 | with_reducible apply below_drewN | with_reducible apply Below.drew | (with_reducible refine Below.alloc ?_ (by first | (simp; done) | (simp; omega) | omega) _) | (with_reducible refine Below.setCell ?_ (by first | (simp; done) | (simp; omega) | omega) _)), by first | with_reducible assumption | (simp; done) | (simp; omega)⟩ ?_ ?_
    · rintro W ⟨k3_b4_0, g3_b4_0, k3_b4_1, g3_b4_1, k3_b4_2, g3_b4_2, k3_b4_3, g3_b4_3, k3_b5_0, g3_b5_0, k3_b5_1, g3_b5_1, k3_b5_2, g3_b5_2, k3_b5_3, g3_b5_3, e3_0, B3, z3⟩; exact ⟨k3_b4_0, g3_b4_0, k3_b4_1, g3_b4_1, k3_b4_2, g3_b4_2, k3_b4_3, g3_b4_3, k3_b5_0, g3_b5_0, k3_b5_1, g3_b5_1, k3_b5_2, g3_b5_2, k3_b5_3, g3_b5_3, e3_0⟩
    (try clear B2)
    (try clear z2)
    (try clear k2_b4_0)
    (try clear g2_b4_0)
    (try clear k2_b4_1)
    (try clear g2_b4_1)
    (try clear k2_b4_2)
    (try clear g2_b4_2)
    (try clear k2_b4_3)
    (try clear g2_b4_3)
    (try clear k2_b5_0)
    (try clear g2_b5_0)
    (try clear k2_b5_1)
    (try clear g2_b5_1)
    (try clear k2_b5_2)
    (try clear g2_b5_2)
    (try clear k2_b5_3)
    (try clear g2_b5_3)
    (try clear e2_0)
    (try clear q2_b4)
    (try clear x2_b4)
    (try clear y2_b4)
    (try clear q2_b5)
    (try clear x2_b5)
    (try clear y2_b5)
    rintro w3 ⟨k3_b4_0, g3_b4_0, k3_b4_1, g3_b4_1, k3_b4_2, g3_b4_2, k3_b4_3, g3_b4_3, k3_b5_0, g3_b5_0, k3_b5_1, g3_b5_1, k3_b5_2, g3_b5_2, k3_b5_3, g3_b5_3, e3_0, B3, z3⟩ gg
    simp only [List.take_succ_cons, List.take_zero, List.drop_succ_cons, List.drop_zero, List.cons_append, List.nil_append, List.append_nil]
    refine obe_val (by rfl) ?_ ?_
    · clear k3_b4_0 g3_b4_0 k3_b4_1 g3_b4_1 k3_b4_2 g3_b4_2 k3_b4_3 g3_b4_3 k3_b5_0 g3_b5_0 k3_b5_1 g3_b5_1 k3_b5_2 g3_b5_2 k3_b5_3 g3_b5_3 e3_0 B3 z3; intro f hf; have u0 : f 0 = (.int .i64 7) := (by rw [← hf]; rfl); clear hf; rintro w' ⟨h0, h1, h2, h3, h4, h5, h6, h7, h8, h9, h10, h11, h12, h13, h14, h15, h16⟩; go_simp; try exact IntWalk.i64_in _ (by omega)
    refine obe_val (by rfl) ?_ ?_
    · clear k3_b4_0 g3_b4_0 k3_b4_1 g3_b4_1 k3_b4_2 g3_b4_2 k3_b4_3 g3_b4_3 k3_b5_0 g3_b5_0 k3_b5_1 g3_b5_1 k3_b5_2 g3_b5_2 k3_b5_3 g3_b5_3 e3_0 B3 z3; intro f hf; have u4 : f 4 = (.pointer (some ⟨w.heap.size, 0, none⟩)) := (by rw [← hf]; rfl); clear hf; rintro w' ⟨h0, h1, h2, h3, h4, h5, h6, h7, h8, h9, h10, h11, h12, h13, h14, h15, h16⟩; go_simp; try exact IntWalk.i64_in _ (by omega)
    refine obe_val (by rfl) ?_ ?_
    · clear k3_b4_0 g3_b4_0 k3_b4_1 g3_b4_1 k3_b4_2 g3_b4_2 k3_b4_3 g3_b4_3 k3_b5_0 g3_b5_0 k3_b5_1 g3_b5_1 k3_b5_2 g3_b5_2 k3_b5_3 g3_b5_3 e3_0 B3 z3; intro f hf; have u5 : f 5 = (.pointer (some ⟨w.heap.size + 1, 0, none⟩)) := (by rw [← hf]; rfl); clear hf; rintro w' ⟨h0, h1, h2, h3, h4, h5, h6, h7, h8, h9, h10, h11, h12, h13, h14, h15, h16⟩; go_simp; try exact IntWalk.i64_in _ (by omega)
    refine obe_call (by rfl) ?_ ?_ ?_
    · clear k3_b4_0 g3_b4_0 k3_b4_1 g3_b4_1 k3_b4_2 g3_b4_2 k3_b4_3 g3_b4_3 k3_b5_0 g3_b5_0 k3_b5_1 g3_b5_1 k3_b5_2 g3_b5_2 k3_b5_3 g3_b5_3 e3_0 B3 z3; intro f hf; have u22 : f 22 = (.int .i64 7) := (by rw [← hf]; rfl); have u23 : f 23 = (.agg #[.int .u8 r, .int .u8 g, .int .u8 b, .int .u8 a]) := (by rw [← hf]; rfl); have u24 : f 24 = (.agg #[.int .u8 s, .int .u8 t, .int .u8 u, .int .u8 d]) := (by rw [← hf]; rfl); clear hf; intro w' _; simp only [execOp, resolve, invoke, rhoF_tmp, rhoF_func, rhoF_const, u22, u23, u24, List.map_toArray, List.map_cons, List.map_nil]; go_simp
    · clear k3_b4_0 g3_b4_0 k3_b4_1 g3_b4_1 k3_b4_2 g3_b4_2 k3_b4_3 g3_b4_3 k3_b5_0 g3_b5_0 k3_b5_1 g3_b5_1 k3_b5_2 g3_b5_2 k3_b5_3 g3_b5_3 e3_0 B3 z3; rintro w' ⟨h0, h1, h2, h3, h4, h5, h6, h7, h8, h9, h10, h11, h12, h13, h14, h15, h16⟩; exact e1 _
    refine obe_val (by rfl) ?_ ?_
    · clear k3_b4_0 g3_b4_0 k3_b4_1 g3_b4_1 k3_b4_2 g3_b4_2 k3_b4_3 g3_b4_3 k3_b5_0 g3_b5_0 k3_b5_1 g3_b5_1 k3_b5_2 g3_b5_2 k3_b5_3 g3_b5_3 e3_0 B3 z3; intro f hf; have u0 : f 0 = (.int .i64 7) := (by rw [← hf]; rfl); clear hf; rintro w' ⟨h0, h1, h2, h3, h4, h5, h6, h7, h8, h9, h10, h11, h12, h13, h14, h15, h16⟩; go_simp; try exact IntWalk.i64_in _ (by omega)
    refine obe_val (by rfl) ?_ ?_
    · clear k3_b4_0 g3_b4_0 k3_b4_1 g3_b4_1 k3_b4_2 g3_b4_2 k3_b4_3 g3_b4_3 k3_b5_0 g3_b5_0 k3_b5_1 g3_b5_1 k3_b5_2 g3_b5_2 k3_b5_3 g3_b5_3 e3_0 B3 z3; intro f hf; have u5 : f 5 = (.pointer (some ⟨w.heap.size + 1, 0, none⟩)) := (by rw [← hf]; rfl); clear hf; rintro w' ⟨h0, h1, h2, h3, h4, h5, h6, h7, h8, h9, h10, h11, h12, h13, h14, h15, h16⟩; go_simp; try exact IntWalk.i64_in _ (by omega)
    refine obe_val (by rfl) ?_ ?_
    · clear k3_b4_0 g3_b4_0 k3_b4_1 g3_b4_1 k3_b4_2 g3_b4_2 k3_b4_3 g3_b4_3 k3_b5_0 g3_b5_0 k3_b5_1 g3_b5_1 k3_b5_2 g3_b5_2 k3_b5_3 g3_b5_3 e3_0 B3 z3; intro f hf; have u4 : f 4 = (.pointer (some ⟨w.heap.size, 0, none⟩)) := (by rw [← hf]; rfl); clear hf; rintro w' ⟨h0, h1, h2, h3, h4, h5, h6, h7, h8, h9, h10, h11, h12, h13, h14, h15, h16⟩; go_simp; try exact IntWalk.i64_in _ (by omega)
    refine obe_call (by rfl) ?_ ?_ ?_
    · clear k3_b4_0 g3_b4_0 k3_b4_1 g3_b4_1 k3_b4_2 g3_b4_2 k3_b4_3 g3_b4_3 k3_b5_0 g3_b5_0 k3_b5_1 g3_b5_1 k3_b5_2 g3_b5_2 k3_b5_3 g3_b5_3 e3_0 B3 z3; intro f hf; have u26 : f 26 = (.int .i64 7) := (by rw [← hf]; rfl); have u27 : f 27 = (.agg #[.int .u8 s, .int .u8 t, .int .u8 u, .int .u8 d]) := (by rw [← hf]; rfl); have u28 : f 28 = (.agg #[.int .u8 r, .int .u8 g, .int .u8 b, .int .u8 a]) := (by rw [← hf]; rfl); clear hf; intro w' _; simp only [execOp, resolve, invoke, rhoF_tmp, rhoF_func, rhoF_const, u26, u27, u28, List.map_toArray, List.map_cons, List.map_nil]; go_simp
    · clear k3_b4_0 g3_b4_0 k3_b4_1 g3_b4_1 k3_b4_2 g3_b4_2 k3_b4_3 g3_b4_3 k3_b5_0 g3_b5_0 k3_b5_1 g3_b5_1 k3_b5_2 g3_b5_2 k3_b5_3 g3_b5_3 e3_0 B3 z3; rintro w' ⟨h0, h1, h2, h3, h4, h5, h6, h7, h8, h9, h10, h11, h12, h13, h14, h15, h16⟩; exact e2 _
    refine obe_val (by rfl) ?_ ?_
    · clear k3_b4_0 g3_b4_0 k3_b4_1 g3_b4_1 k3_b4_2 g3_b4_2 k3_b4_3 g3_b4_3 k3_b5_0 g3_b5_0 k3_b5_1 g3_b5_1 k3_b5_2 g3_b5_2 k3_b5_3 g3_b5_3 e3_0 B3 z3; intro f hf; have u25 : f 25 = (.agg #[.int .u8 q0, .int .u8 q1, .int .u8 q2, .int .u8 z]) := (by rw [← hf]; rfl); have u29 : f 29 = (.agg #[.int .u8 q0, .int .u8 q1, .int .u8 q2, .int .u8 z]) := (by rw [← hf]; rfl); clear hf; rintro w' ⟨h0, h1, h2, h3, h4, h5, h6, h7, h8, h9, h10, h11, h12, h13, h14, h15, h16⟩; go_simp; try exact IntWalk.i64_in _ (by omega)
    refine obe_val (by rfl) ?_ ?_
    · clear k3_b4_0 g3_b4_0 k3_b4_1 g3_b4_1 k3_b4_2 g3_b4_2 k3_b4_3 g3_b4_3 k3_b5_0 g3_b5_0 k3_b5_1 g3_b5_1 k3_b5_2 g3_b5_2 k3_b5_3 g3_b5_3 e3_0 B3 z3; intro f hf; have u30 : f 30 = (.bool true) := (by rw [← hf]; rfl); clear hf; rintro w' ⟨h0, h1, h2, h3, h4, h5, h6, h7, h8, h9, h10, h11, h12, h13, h14, h15, h16⟩; go_simp; try exact IntWalk.i64_in _ (by omega)
    refine obe_call (by rfl) ?_ ?_ ?_
    · clear k3_b4_0 g3_b4_0 k3_b4_1 g3_b4_1 k3_b4_2 g3_b4_2 k3_b4_3 g3_b4_3 k3_b5_0 g3_b5_0 k3_b5_1 g3_b5_1 k3_b5_2 g3_b5_2 k3_b5_3 g3_b5_3 e3_0 B3 z3; intro f hf; clear hf; intro w' _; simp only [execOp, resolve, invoke, rhoF_tmp, rhoF_func, rhoF_const, List.map_toArray, List.map_cons, List.map_nil]; go_simp
    · clear k3_b4_0 g3_b4_0 k3_b4_1 g3_b4_1 k3_b4_2 g3_b4_2 k3_b4_3 g3_b4_3 k3_b5_0 g3_b5_0 k3_b5_1 g3_b5_1 k3_b5_2 g3_b5_2 k3_b5_3 g3_b5_3 e3_0 B3 z3; rintro w' ⟨h0, h1, h2, h3, h4, h5, h6, h7, h8, h9, h10, h11, h12, h13, h14, h15, h16⟩; exact bex_any _ (by assumption)
    refine obe_val (by rfl) ?_ ?_
    · clear k3_b4_0 g3_b4_0 k3_b4_1 g3_b4_1 k3_b4_2 g3_b4_2 k3_b4_3 g3_b4_3 k3_b5_0 g3_b5_0 k3_b5_1 g3_b5_1 k3_b5_2 g3_b5_2 k3_b5_3 g3_b5_3 e3_0 B3 z3; intro f hf; have u31 : f 31 = (.bool true) := (by rw [← hf]; rfl); have u32 : f 32 = (.bool true) := (by rw [← hf]; rfl); clear hf; rintro w' ⟨h0, h1, h2, h3, h4, h5, h6, h7, h8, h9, h10, h11, h12, h13, h14, h15, h16⟩; go_simp; try exact IntWalk.i64_in _ (by omega)
    refine obe_val (by rfl) ?_ ?_
    · clear k3_b4_0 g3_b4_0 k3_b4_1 g3_b4_1 k3_b4_2 g3_b4_2 k3_b4_3 g3_b4_3 k3_b5_0 g3_b5_0 k3_b5_1 g3_b5_1 k3_b5_2 g3_b5_2 k3_b5_3 g3_b5_3 e3_0 B3 z3; intro f hf; have u33 : f 33 = (.bool true) := (by rw [← hf]; rfl); clear hf; rintro w' ⟨h0, h1, h2, h3, h4, h5, h6, h7, h8, h9, h10, h11, h12, h13, h14, h15, h16⟩; go_simp; try exact IntWalk.i64_in _ (by omega)
    refine obe_nil ?_
    rintro w4 ⟨h0, h1, h2, h3, h4, h5, h6, h7, h8, h9, h10, h11, h12, h13, h14, h15, h16⟩ hb4 hF
    (try simp only [List.nil_append, List.append_nil, List.cons_append] at hF)
    simp only [puts, putD, Act.put, List.setIfInBounds_toArray, List.set_cons_zero, List.set_cons_succ]
    clear hF
    have k4_b4_0 := bcs hb4 k3_b4_0
    have g4_b4_0 := bfs hb4 k3_b4_0 g3_b4_0
    have k4_b4_1 := bcs hb4 k3_b4_1
    have g4_b4_1 := bfs hb4 k3_b4_1 g3_b4_1
    have k4_b4_2 := bcs hb4 k3_b4_2
    have g4_b4_2 := bfs hb4 k3_b4_2 g3_b4_2
    have k4_b4_3 := bcs hb4 k3_b4_3
    have g4_b4_3 := bfs hb4 k3_b4_3 g3_b4_3
    have k4_b5_0 := bcs hb4 k3_b5_0
    have g4_b5_0 := bfs hb4 k3_b5_0 g3_b5_0
    have k4_b5_1 := bcs hb4 k3_b5_1
    have g4_b5_1 := bfs hb4 k3_b5_1 g3_b5_1
    have k4_b5_2 := bcs hb4 k3_b5_2
    have g4_b5_2 := bfs hb4 k3_b5_2 g3_b5_2
    have k4_b5_3 := bcs hb4 k3_b5_3
    have g4_b5_3 := bfs hb4 k3_b5_3 g3_b5_3
    clear h0 h1 h2 h3 h4 h5 h6 h7 h8 h9 h10 h11 h12 h13 h14 h15 h16
    have B4 := bel_step B3 hb4
    have z4 := Nat.le_trans z3 hb4.size
    have e4_0 := Nm.below hN B4
    clear hb4
    (try clear B3)
    (try clear z3)
    (try clear k3_b4_0)
    (try clear g3_b4_0)
    (try clear k3_b4_1)
    (try clear g3_b4_1)
    (try clear k3_b4_2)
    (try clear g3_b4_2)
    (try clear k3_b4_3)
    (try clear g3_b4_3)
    (try clear k3_b5_0)
    (try clear g3_b5_0)
    (try clear k3_b5_1)
    (try clear g3_b5_1)
    (try clear k3_b5_2)
    (try clear g3_b5_2)
    (try clear k3_b5_3)
    (try clear g3_b5_3)
    (try clear e3_0)
    (try clear q3_b4)
    (try clear x3_b4)
    (try clear y3_b4)
    (try clear q3_b5)
    (try clear x3_b5)
    (try clear y3_b5)
    have q4_b4 : w.heap.size < w4.heap.size := qlt k4_b4_0
    have x4_b4 : ¬ w.heap.size = w4.heap.size := qne k4_b4_0
    have y4_b4 : ¬ w4.heap.size = w.heap.size := fun h => qne k4_b4_0 h.symm
    have q4_b5 : w.heap.size + 1 < w4.heap.size := qlt k4_b5_0
    have x4_b5 : ¬ w.heap.size + 1 = w4.heap.size := qne k4_b5_0
    have y4_b5 : ¬ w4.heap.size = w.heap.size + 1 := fun h => qne k4_b5_0 h.symm
    unfold wpList
    go_wp2
    go_ret
    refine ⟨rfl, ?_⟩
    repeat (first | with_reducible exact Below.refl _ _ | with_reducible exact B4 | with_reducible apply below_drewN | with_reducible apply Below.drew | (with_reducible refine Below.alloc ?_ (by first | (simp; done) | (simp; omega) | omega) _) | (with_reducible refine Below.setCell ?_ (by first | (simp; done) | (simp; omega) | omega) _))
  have n7 : (m == 7) = false := by simpa using k7
  clear k7
  by_cases k8 : m = 8
  · subst k8
    have e1 := fun w => blend_any 8 r g b a s t u d (by omega) (by omega) r0 r1 g0 g1 b0 b1 a0 a1 s0 s1 t0 t1 u0 u1 d0 d1 w
    have e2 := fun w => blend_any 8 s t u d r g b a (by omega) (by omega) s0 s1 t0 t1 u0 u1 d0 d1 r0 r1 g0 g1 b0 b1 a0 a1 w
    rw [bc_comm 8 (min r a) a (min s d) d (by omega), bc_comm 8 (min g a) a (min t d) d (by omega), bc_comm 8 (min b a) a (min u d) d (by omega), al_comm, hz] at e2
    rw [hz] at e1
    clear hz
    obtain ⟨q0, hq0⟩ : ∃ x, bc 8 (min r a) a (min s d) d = x := ⟨_, rfl⟩
    obtain ⟨q1, hq1⟩ : ∃ x, bc 8 (min g a) a (min t d) d = x := ⟨_, rfl⟩
    obtain ⟨q2, hq2⟩ : ∃ x, bc 8 (min b a) a (min u d) d = x := ⟨_, rfl⟩
    rw [hq0, hq1, hq2] at e1 e2
    clear hq0 hq1 hq2
    go_enter Tryd.func8, Tryd.ntmps8
    go_wp2
    refine wp_region_env (fun w' => w'.cell? ⟨w.heap.size, 0, none⟩ = some (.int .u8 r) ∧ w'.frozen? ⟨w.heap.size, 0, none⟩ = false ∧ w'.cell? ⟨w.heap.size, 1, none⟩ = some (.int .u8 g) ∧ w'.frozen? ⟨w.heap.size, 1, none⟩ = false ∧ w'.cell? ⟨w.heap.size, 2, none⟩ = some (.int .u8 b) ∧ w'.frozen? ⟨w.heap.size, 2, none⟩ = false ∧ w'.cell? ⟨w.heap.size, 3, none⟩ = some (.int .u8 a) ∧ w'.frozen? ⟨w.heap.size, 3, none⟩ = false ∧ w'.cell? ⟨w.heap.size + 1, 0, none⟩ = some (.int .u8 s) ∧ w'.frozen? ⟨w.heap.size + 1, 0, none⟩ = false ∧ w'.cell? ⟨w.heap.size + 1, 1, none⟩ = some (.int .u8 t) ∧ w'.frozen? ⟨w.heap.size + 1, 1, none⟩ = false ∧ w'.cell? ⟨w.heap.size + 1, 2, none⟩ = some (.int .u8 u) ∧ w'.frozen? ⟨w.heap.size + 1, 2, none⟩ = false ∧ w'.cell? ⟨w.heap.size + 1, 3, none⟩ = some (.int .u8 d) ∧ w'.frozen? ⟨w.heap.size + 1, 3, none⟩ = false ∧ Nm w') (fun W => W.cell? ⟨w.heap.size, 0, none⟩ = some (.int .u8 r) ∧ W.frozen? ⟨w.heap.size, 0, none⟩ = false ∧ W.cell? ⟨w.heap.size, 1, none⟩ = some (.int .u8 g) ∧ W.frozen? ⟨w.heap.size, 1, none⟩ = false ∧ W.cell? ⟨w.heap.size, 2, none⟩ = some (.int .u8 b) ∧ W.frozen? ⟨w.heap.size, 2, none⟩ = false ∧ W.cell? ⟨w.heap.size, 3, none⟩ = some (.int .u8 a) ∧ W.frozen? ⟨w.heap.size, 3, none⟩ = false ∧ W.cell? ⟨w.heap.size + 1, 0, none⟩ = some (.int .u8 s) ∧ W.frozen? ⟨w.heap.size + 1, 0, none⟩ = false ∧ W.cell? ⟨w.heap.size + 1, 1, none⟩ = some (.int .u8 t) ∧ W.frozen? ⟨w.heap.size + 1, 1, none⟩ = false ∧ W.cell? ⟨w.heap.size + 1, 2, none⟩ = some (.int .u8 u) ∧ W.frozen? ⟨w.heap.size + 1, 2, none⟩ = false ∧ W.cell? ⟨w.heap.size + 1, 3, none⟩ = some (.int .u8 d) ∧ W.frozen? ⟨w.heap.size + 1, 3, none⟩ = false ∧ Nm W ∧ Below w.heap.size w W ∧ w.heap.size + 1 + 1 ≤ W.heap.size) 7 35 [.val (.agg #[.int .u8 r, .int .u8 g, .int .u8 b, .int .u8 a]), .val (.agg #[.int .u8 s, .int .u8 t, .int .u8 u, .int .u8 d]), .call 23 #[.int .i64 9, .agg #[.int .u8 r, .int .u8 g, .int .u8 b, .int .u8 a], .agg #[.int .u8 s, .int .u8 t, .int .u8 u, .int .u8 d]] (.agg #[.int .u8 y0, .int .u8 y1, .int .u8 y2, .int .u8 z]), .val (.agg #[.int .u8 s, .int .u8 t, .int .u8 u, .int .u8 d]), .val (.agg #[.int .u8 r, .int .u8 g, .int .u8 b, .int .u8 a]), .call 23 #[.int .i64 4, .agg #[.int .u8 s, .int .u8 t, .int .u8 u, .int .u8 d], .agg #[.int .u8 r, .int .u8 g, .int .u8 b, .int .u8 a]] (.agg #[.int .u8 y0, .int .u8 y1, .int .u8 y2, .int .u8 z]), .val (.bool false)] (by kernel_rfl) (by kernel_rfl) rfl (by kernel_rfl) (by rintro w1 w2 ⟨h0, h1, h2, h3, h4, h5, h6, h7, h8, h9, h10, h11, h12, h13, h14, h15, h16⟩ hb; exact ⟨bcs hb h0, bfs hb h0 h1, bcs hb h2, bfs hb h2 h3, bcs hb h4, bfs hb h4 h5, bcs hb h6, bfs hb h6 h7, bcs hb h8, bfs hb h8 h9, bcs hb h10, bfs hb h10 h11, bcs hb h12, bfs hb h12 h13, bcs hb h14, bfs hb h14 h15, Nm.below h16 hb⟩) ⟨by first | with_reducible assumption | go_simp, by first | with_reducible assumption | go_simp, by first | with_reducible assumption | go_simp, by first | with_reducible assumption | go_simp, by first | with_reducible assumption | go_simp, by first | with_reducible assumption | go_simp, by first | with_reducible assumption | go_simp, by first | with_reducible assumption | go_simp, by first | with_reducible assumption | go_simp, by first | with_reducible assumption | go_simp, by first | with_reducible assumption | go_simp, by first | with_reducible assumption | go_simp, by first | with_reducible assumption | go_simp, by first | with_reducible assumption | go_simp, by first | with_reducible assumption | go_simp, by first | with_reducible assumption | go_simp, Nm.below hN (by repeat (first | with_reducible exact Below.refl _ _ | fail | with_reducible apply below_drewN | with_reducible apply Below.drew | (with_reducible refine Below.alloc ?_ (by first | (simp; done) | (simp; omega) | omega) _) | (with_reducible refine Below.setCell ?_ (by first | (simp; done) | (simp; omega) | omega) _))), by repeat (first | with_reducible exact Below.refl _ _ | fail | with_reducible apply below_drewN | with_reducible apply Below.drew | (with_reducible refine Below.alloc ?_ (by first | (simp; done) | (simp; omega) | omega) _) | (with_reducible refine Below.setCell ?_ (by first | (simp; done) | (simp; omega) | omega) _)), by first | with_reducible assumption | (simp; done) | (simp; omega)⟩ ?_ ?_
    · rintro W ⟨k1_b4_0, g1_b4_0, k1_b4_1, g1_b4_1, k1_b4_2, g1_b4_2, k1_b4_3, g1_b4_3, k1_b5_0, g1_b5_0, k1_b5_1, g1_b5_1, k1_b5_2, g1_b5_2, k1_b5_3, g1_b5_3, e1_0, B1, z1⟩; exact ⟨k1_b4_0, g1_b4_0, k1_b4_1, g1_b4_1, k1_b4_2, g1_b4_2, k1_b4_3, g1_b4_3, k1_b5_0, g1_b5_0, k1_b5_1, g1_b5_1, k1_b5_2, g1_b5_2, k1_b5_3, g1_b5_3, e1_0⟩
    rintro w1 ⟨k1_b4_0, g1_b4_0, k1_b4_1, g1_b4_1, k1_b4_2, g1_b4_2, k1_b4_3, g1_b4_3, k1_b5_0, g1_b5_0, k1_b5_1, g1_b5_1, k1_b5_2, g1_b5_2, k1_b5_3, g1_b5_3, e1_0, B1, z1⟩ gg
    simp only [List.take_succ_cons, List.take_zero, List.drop_succ_cons, List.drop_zero, List.cons_append, List.nil_append, List.append_nil]
    refine obe_val (by rfl) ?_ ?_
    · clear k1_b4_0 g1_b4_0 k1_b4_1 g1_b4_1 k1_b4_2 g1_b4_2 k1_b4_3 g1_b4_3 k1_b5_0 g1_b5_0 k1_b5_1 g1_b5_1 k1_b5_2 g1_b5_2 k1_b5_3 g1_b5_3 e1_0 B1 z1; intro f hf; have u4 : f 4 = (.pointer (some ⟨w.heap.size, 0, none⟩)) := (by rw [← hf]; rfl); clear hf; rintro w' ⟨h0, h1, h2, h3, h4, h5, h6, h7, h8, h9, h10, h11, h12, h13, h14, h15, h16⟩; go_simp; try exact IntWalk.i64_in _ (by omega)
    refine obe_val (by rfl) ?_ ?_
    · clear k1_b4_0 g1_b4_0 k1_b4_1 g1_b4_1 k1_b4_2 g1_b4_2 k1_b4_3 g1_b4_3 k1_b5_0 g1_b5_0 k1_b5_1 g1_b5_1 k1_b5_2 g1_b5_2 k1_b5_3 g1_b5_3 e1_0 B1 z1; intro f hf; have u5 : f 5 = (.pointer (some ⟨w.heap.size + 1, 0, none⟩)) := (by rw [← hf]; rfl); clear hf; rintro w' ⟨h0, h1, h2, h3, h4, h5, h6, h7, h8, h9, h10, h11, h12, h13, h14, h15, h16⟩; go_simp; try exact IntWalk.i64_in _ (by omega)
    refine obe_call (by rfl) ?_ ?_ ?_
    · clear k1_b4_0 g1_b4_0 k1_b4_1 g1_b4_1 k1_b4_2 g1_b4_2 k1_b4_3 g1_b4_3 k1_b5_0 g1_b5_0 k1_b5_1 g1_b5_1 k1_b5_2 g1_b5_2 k1_b5_3 g1_b5_3 e1_0 B1 z1; intro f hf; have u7 : f 7 = (.agg #[.int .u8 r, .int .u8 g, .int .u8 b, .int .u8 a]) := (by rw [← hf]; rfl); have u8 : f 8 = (.agg #[.int .u8 s, .int .u8 t, .int .u8 u, .int .u8 d]) := (by rw [← hf]; rfl); clear hf; intro w' _; simp only [execOp, resolve, invoke, rhoF_tmp, rhoF_func, rhoF_const, u7, u8, List.map_toArray, List.map_cons, List.map_nil]; go_simp
    · clear k1_b4_0 g1_b4_0 k1_b4_1 g1_b4_1 k1_b4_2 g1_b4_2 k1_b4_3 g1_b4_3 k1_b5_0 g1_b5_0 k1_b5_1 g1_b5_1 k1_b5_2 g1_b5_2 k1_b5_3 g1_b5_3 e1_0 B1 z1; rintro w' ⟨h0, h1, h2, h3, h4, h5, h6, h7, h8, h9, h10, h11, h12, h13, h14, h15, h16⟩; exact c9 _
    refine obe_val (by rfl) ?_ ?_
    · clear k1_b4_0 g1_b4_0 k1_b4_1 g1_b4_1 k1_b4_2 g1_b4_2 k1_b4_3 g1_b4_3 k1_b5_0 g1_b5_0 k1_b5_1 g1_b5_1 k1_b5_2 g1_b5_2 k1_b5_3 g1_b5_3 e1_0 B1 z1; intro f hf; have u5 : f 5 = (.pointer (some ⟨w.heap.size + 1, 0, none⟩)) := (by rw [← hf]; rfl); clear hf; rintro w' ⟨h0, h1, h2, h3, h4, h5, h6, h7, h8, h9, h10, h11, h12, h13, h14, h15, h16⟩; go_simp; try exact IntWalk.i64_in _ (by omega)
    refine obe_val (by rfl) ?_ ?_
    · clear k1_b4_0 g1_b4_0 k1_b4_1 g1_b4_1 k1_b4_2 g1_b4_2 k1_b4_3 g1_b4_3 k1_b5_0 g1_b5_0 k1_b5_1 g1_b5_1 k1_b5_2 g1_b5_2 k1_b5_3 g1_b5_3 e1_0 B1 z1; intro f hf; have u4 : f 4 = (.pointer (some ⟨w.heap.size, 0, none⟩)) := (by rw [← hf]; rfl); clear hf; rintro w' ⟨h0, h1, h2, h3, h4, h5, h6, h7, h8, h9, h10, h11, h12, h13, h14, h15, h16⟩; go_simp; try exact IntWalk.i64_in _ (by omega)
    refine obe_call (by rfl) ?_ ?_ ?_
    · clear k1_b4_0 g1_b4_0 k1_b4_1 g1_b4_1 k1_b4_2 g1_b4_2 k1_b4_3 g1_b4_3 k1_b5_0 g1_b5_0 k1_b5_1 g1_b5_1 k1_b5_2 g1_b5_2 k1_b5_3 g1_b5_3 e1_0 B1 z1; intro f hf; have u10 : f 10 = (.agg #[.int .u8 s, .int .u8 t, .int .u8 u, .int .u8 d]) := (by rw [← hf]; rfl); have u11 : f 11 = (.agg #[.int .u8 r, .int .u8 g, .int .u8 b, .int .u8 a]) := (by rw [← hf]; rfl); clear hf; intro w' _; simp only [execOp, resolve, invoke, rhoF_tmp, rhoF_func, rhoF_const, u10, u11, List.map_toArray, List.map_cons, List.map_nil]; go_simp
    · clear k1_b4_0 g1_b4_0 k1_b4_1 g1_b4_1 k1_b4_2 g1_b4_2 k1_b4_3 g1_b4_3 k1_b5_0 g1_b5_0 k1_b5_1 g1_b5_1 k1_b5_2 g1_b5_2 k1_b5_3 g1_b5_3 e1_0 B1 z1; rintro w' ⟨h0, h1, h2, h3, h4, h5, h6, h7, h8, h9, h10, h11, h12, h13, h14, h15, h16⟩; exact c4 _
    refine obe_val (by rfl) ?_ ?_
    · clear k1_b4_0 g1_b4_0 k1_b4_1 g1_b4_1 k1_b4_2 g1_b4_2 k1_b4_3 g1_b4_3 k1_b5_0 g1_b5_0 k1_b5_1 g1_b5_1 k1_b5_2 g1_b5_2 k1_b5_3 g1_b5_3 e1_0 B1 z1; intro f hf; have u9 : f 9 = (.agg #[.int .u8 y0, .int .u8 y1, .int .u8 y2, .int .u8 z]) := (by rw [← hf]; rfl); have u12 : f 12 = (.agg #[.int .u8 y0, .int .u8 y1, .int .u8 y2, .int .u8 z]) := (by rw [← hf]; rfl); clear hf; rintro w' ⟨h0, h1, h2, h3, h4, h5, h6, h7, h8, h9, h10, h11, h12, h13, h14, h15, h16⟩; go_simp; try exact IntWalk.i64_in _ (by omega)
    refine obe_nil ?_
    rintro w2 ⟨h0, h1, h2, h3, h4, h5, h6, h7, h8, h9, h10, h11, h12, h13, h14, h15, h16⟩ hb2 hF
    (try simp only [List.nil_append, List.append_nil, List.cons_append] at hF)
    simp only [puts, putD, Act.put, List.setIfInBounds_toArray, List.set_cons_zero, List.set_cons_succ]
    clear hF
    have k2_b4_0 := bcs hb2 k1_b4_0
    have g2_b4_0 := bfs hb2 k1_b4_0 g1_b4_0
    have k2_b4_1 := bcs hb2 k1_b4_1
    have g2_b4_1 := bfs hb2 k1_b4_1 g1_b4_1
    have k2_b4_2 := bcs hb2 k1_b4_2
    have g2_b4_2 := bfs hb2 k1_b4_2 g1_b4_2
    have k2_b4_3 := bcs hb2 k1_b4_3
    have g2_b4_3 := bfs hb2 k1_b4_3 g1_b4_3
    have k2_b5_0 := bcs hb2 k1_b5_0
    have g2_b5_0 := bfs hb2 k1_b5_0 g1_b5_0
    have k2_b5_1 := bcs hb2 k1_b5_1
    have g2_b5_1 := bfs hb2 k1_b5_1 g1_b5_1
    have k2_b5_2 := bcs hb2 k1_b5_2
    have g2_b5_2 := bfs hb2 k1_b5_2 g1_b5_2
    have k2_b5_3 := bcs hb2 k1_b5_3
    have g2_b5_3 := bfs hb2 k1_b5_3 g1_b5_3
    clear h0 h1 h2 h3 h4 h5 h6 h7 h8 h9 h10 h11 h12 h13 h14 h15 h16
    have B2 := bel_step B1 hb2
    have z2 := Nat.le_trans z1 hb2.size
    have e2_0 := Nm.below hN B2
    clear hb2
    (try clear B1)
    (try clear z1)
    (try clear k1_b4_0)
    (try clear g1_b4_0)
    (try clear k1_b4_1)
    (try clear g1_b4_1)
    (try clear k1_b4_2)
    (try clear g1_b4_2)
    (try clear k1_b4_3)
    (try clear g1_b4_3)
    (try clear k1_b5_0)
    (try clear g1_b5_0)
    (try clear k1_b5_1)
    (try clear g1_b5_1)
    (try clear k1_b5_2)
    (try clear g1_b5_2)
    (try clear k1_b5_3)
    (try clear g1_b5_3)
    (try clear e1_0)
    (try clear q1_b4)
    (try clear x1_b4)
    (try clear y1_b4)
    (try clear q1_b5)
    (try clear x1_b5)
    (try clear y1_b5)
    have q2_b4 : w.heap.size < w2.heap.size := qlt k2_b4_0
    have x2_b4 : ¬ w.heap.size = w2.heap.size := qne k2_b4_0
    have y2_b4 : ¬ w2.heap.size = w.heap.size := fun h => qne k2_b4_0 h.symm
    have q2_b5 : w.heap.size + 1 < w2.heap.size := qlt k2_b5_0
    have x2_b5 : ¬ w.heap.size + 1 = w2.heap.size := qne k2_b5_0
    have y2_b5 : ¬ w2.heap.size = w.heap.size + 1 := fun h => qne k2_b5_0 h.symm
    unfold wpList
    go_wp2
    refine wp_region_env (fun w' => w'.cell? ⟨w.heap.size, 0, none⟩ = some (.int .u8 r) ∧ w'.frozen? ⟨w.heap.size, 0, none⟩ = false ∧ w'.cell? ⟨w.heap.size, 1, none⟩ = some (.int .u8 g) ∧ w'.frozen? ⟨w.heap.size, 1, none⟩ = false ∧ w'.cell? ⟨w.heap.size, 2, none⟩ = some (.int .u8 b) ∧ w'.frozen? ⟨w.heap.size, 2, none⟩ = false ∧ w'.cell? ⟨w.heap.size, 3, none⟩ = some (.int .u8 a) ∧ w'.frozen? ⟨w.heap.size, 3, none⟩ = false ∧ w'.cell? ⟨w.heap.size + 1, 0, none⟩ = some (.int .u8 s) ∧ w'.frozen? ⟨w.heap.size + 1, 0, none⟩ = false ∧ w'.cell? ⟨w.heap.size + 1, 1, none⟩ = some (.int .u8 t) ∧ w'.frozen? ⟨w.heap.size + 1, 1, none⟩ = false ∧ w'.cell? ⟨w.heap.size + 1, 2, none⟩ = some (.int .u8 u) ∧ w'.frozen? ⟨w.heap.size + 1, 2, none⟩ = false ∧ w'.cell? ⟨w.heap.size + 1, 3, none⟩ = some (.int .u8 d) ∧ w'.frozen? ⟨w.heap.size + 1, 3, none⟩ = false ∧ Nm w') (fun W => W.cell? ⟨w.heap.size, 0, none⟩ = some (.int .u8 r) ∧ W.frozen? ⟨w.heap.size, 0, none⟩ = false ∧ W.cell? ⟨w.heap.size, 1, none⟩ = some (.int .u8 g) ∧ W.frozen? ⟨w.heap.size, 1, none⟩ = false ∧ W.cell? ⟨w.heap.size, 2, none⟩ = some (.int .u8 b) ∧ W.frozen? ⟨w.heap.size, 2, none⟩ = false ∧ W.cell? ⟨w.heap.size, 3, none⟩ = some (.int .u8 a) ∧ W.frozen? ⟨w.heap.size, 3, none⟩ = false ∧ W.cell? ⟨w.heap.size + 1, 0, none⟩ = some (.int .u8 s) ∧ W.frozen? ⟨w.heap.size + 1, 0, none⟩ = false ∧ W.cell? ⟨w.heap.size + 1, 1, none⟩ = some (.int .u8 t) ∧ W.frozen? ⟨w.heap.size + 1, 1, none⟩ = false ∧ W.cell? ⟨w.heap.size + 1, 2, none⟩ = some (.int .u8 u) ∧ W.frozen? ⟨w.heap.size + 1, 2, none⟩ = false ∧ W.cell? ⟨w.heap.size + 1, 3, none⟩ = some (.int .u8 d) ∧ W.frozen? ⟨w.heap.size + 1, 3, none⟩ = false ∧ Nm W ∧ Below w.heap.size w W ∧ w.heap.size + 1 + 1 ≤ W.heap.size) 13 35 [.val (.int .i64 8), .val (.agg #[.int .u8 r, .int .u8 g, .int .u8 b, .int .u8 a]), .val (.agg #[.int .u8 s, .int .u8 t, .int .u8 u, .int .u8 d]), .call 23 #[.int .i64 8, .agg #[.int .u8 r, .int .u8 g, .int .u8 b, .int .u8 a], .agg #[.int .u8 s, .int .u8 t, .int .u8 u, .int .u8 d]] (.agg #[.int .u8 q0, .int .u8 q1, .int .u8 q2, .int .u8 z]), .val (.int .i64 8), .val (.agg #[.int .u8 s, .int .u8 t, .int .u8 u, .int .u8 d]), .val (.agg #[.int .u8 r, .int .u8 g, .int .u8 b, .int .u8 a]), .call 23 #[.int .i64 8, .agg #[.int .u8 s, .int .u8 t, .int .u8 u, .int .u8 d], .agg #[.int .u8 r, .int .u8 g, .int .u8 b, .int .u8 a]] (.agg #[.int .u8 q0, .int .u8 q1, .int .u8 q2, .int .u8 z]), .val (.bool true), .val (.bool true), .call 20 #[] (.bool true), .val (.bool true), .val (.bool true)] (by kernel_rfl) (by kernel_rfl) rfl (by kernel_rfl) (by rintro w1 w2 ⟨h0, h1, h2, h3, h4, h5, h6, h7, h8, h9, h10, h11, h12, h13, h14, h15, h16⟩ hb; exact ⟨bcs hb h0, bfs hb h0 h1, bcs hb h2, bfs hb h2 h3, bcs hb h4, bfs hb h4 h5, bcs hb h6, bfs hb h6 h7, bcs hb h8, bfs hb h8 h9, bcs hb h10, bfs hb h10 h11, bcs hb h12, bfs hb h12 h13, bcs hb h14, bfs hb h14 h15, Nm.below h16 hb⟩) ⟨by first | with_reducible assumption | go_simp, by first | with_reducible assumption | go_simp, by first | with_reducible assumption | go_simp, by first | with_reducible assumption | go_simp, by first | with_reducible assumption | go_simp, by first | with_reducible assumption | go_simp, by first | with_reducible assumption | go_simp, by first | with_reducible assumption | go_simp, by first | with_reducible assumption | go_simp, by first | with_reducible assumption | go_simp, by first | with_reducible assumption | go_simp, by first | with_reducible assumption | go_simp, by first | with_reducible assumption | go_simp, by first | with_reducible assumption | go_simp, by first | with_reducible assumption | go_simp, by first | with_reducible assumption | go_simp, Nm.below hN (by repeat (first | with_reducible exact Below.refl _ _ | with_reducible exact B2 | with_reducible apply below_drewN | with_reducible apply Below.drew | (with_reducible refine Below.alloc ?_ (by first | (simp; done) | (simp; omega) | omega) _) | (with_reducible refine Below.setCell ?_ (by first | (simp; done) | (simp; omega) | omega) _))), by repeat (first | with_reducible exact Below.refl _ _ | with_reducible exact B2 | with_reducible apply below_drewN | with_reducible apply Below.drew | (with_reducible refine Below.alloc ?_ (by first | (simp; done) | (simp; omega) | omega) _) | (with_reducible refine Below.setCell ?_ (by first | (simp; done) | (simp; omega) | omega) _)), by first | with_reducible assumption | (simp; done) | (simp; omega)⟩ ?_ ?_
    · rintro W ⟨k3_b4_0, g3_b4_0, k3_b4_1, g3_b4_1, k3_b4_2, g3_b4_2, k3_b4_3, g3_b4_3, k3_b5_0, g3_b5_0, k3_b5_1, g3_b5_1, k3_b5_2, g3_b5_2, k3_b5_3, g3_b5_3, e3_0, B3, z3⟩; exact ⟨k3_b4_0, g3_b4_0, k3_b4_1, g3_b4_1, k3_b4_2, g3_b4_2, k3_b4_3, g3_b4_3, k3_b5_0, g3_b5_0, k3_b5_1, g3_b5_1, k3_b5_2, g3_b5_2, k3_b5_3, g3_b5_3, e3_0⟩
    (try clear B2)
    (try clear z2)
    (try clear k2_b4_0)
    (try clear g2_b4_0)
    (try clear k2_b4_1)
    (try clear g2_b4_1)
    (try clear k2_b4_2)
    (try clear g2_b4_2)
    (try clear k2_b4_3)
    (try clear g2_b4_3)
    (try clear k2_b5_0)
    (try clear g2_b5_0)
    (try clear k2_b5_1)
    (try clear g2_b5_1)
    (try clear k2_b5_2)
    (try clear g2_b5_2)
    (try clear k2_b5_3)
    (try clear g2_b5_3)
    (try clear e2_0)
    (try clear q2_b4)
    (try clear x2_b4)
    (try clear y2_b4)
    (try clear q2_b5)
    (try clear x2_b5)
    (try clear y2_b5)
    rintro w3 ⟨k3_b4_0, g3_b4_0, k3_b4_1, g3_b4_1, k3_b4_2, g3_b4_2, k3_b4_3, g3_b4_3, k3_b5_0, g3_b5_0, k3_b5_1, g3_b5_1, k3_b5_2, g3_b5_2, k3_b5_3, g3_b5_3, e3_0, B3, z3⟩ gg
    simp only [List.take_succ_cons, List.take_zero, List.drop_succ_cons, List.drop_zero, List.cons_append, List.nil_append, List.append_nil]
    refine obe_val (by rfl) ?_ ?_
    · clear k3_b4_0 g3_b4_0 k3_b4_1 g3_b4_1 k3_b4_2 g3_b4_2 k3_b4_3 g3_b4_3 k3_b5_0 g3_b5_0 k3_b5_1 g3_b5_1 k3_b5_2 g3_b5_2 k3_b5_3 g3_b5_3 e3_0 B3 z3; intro f hf; have u0 : f 0 = (.int .i64 8) := (by rw [← hf]; rfl); clear hf; rintro w' ⟨h0, h1, h2, h3, h4, h5, h6, h7, h8, h9, h10, h11, h12, h13, h14, h15, h16⟩; go_simp; try exact IntWalk.i64_in _ (by omega)
    refine obe_val (by rfl) ?_ ?_
    · clear k3_b4_0 g3_b4_0 k3_b4_1 g3_b4_1 k3_b4_2 g3_b4_2 k3_b4_3 g3_b4_3 k3_b5_0 g3_b5_0 k3_b5_1 g3_b5_1 k3_b5_2 g3_b5_2 k3_b5_3 g3_b5_3 e3_0 B3 z3; intro f hf; have u4 : f 4 = (.pointer (some ⟨w.heap.size, 0, none⟩)) := (by rw [← hf]; rfl); clear hf; rintro w' ⟨h0, h1, h2, h3, h4, h5, h6, h7, h8, h9, h10, h11, h12, h13, h14, h15, h16⟩; go_simp; try exact IntWalk.i64_in _ (by omega)
    refine obe_val (by rfl) ?_ ?_
    · clear k3_b4_0 g3_b4_0 k3_b4_1 g3_b4_1 k3_b4_2 g3_b4_2 k3_b4_3 g3_b4_3 k3_b5_0 g3_b5_0 k3_b5_1 g3_b5_1 k3_b5_2 g3_b5_2 k3_b5_3 g3_b5_3 e3_0 B3 z3; intro f hf; have u5 : f 5 = (.pointer (some ⟨w.heap.size + 1, 0, none⟩)) := (by rw [← hf]; rfl); clear hf; rintro w' ⟨h0, h1, h2, h3, h4, h5, h6, h7, h8, h9, h10, h11, h12, h13, h14, h15, h16⟩; go_simp; try exact IntWalk.i64_in _ (by omega)
    refine obe_call (by rfl) ?_ ?_ ?_
    · clear k3_b4_0 g3_b4_0 k3_b4_1 g3_b4_1 k3_b4_2 g3_b4_2 k3_b4_3 g3_b4_3 k3_b5_0 g3_b5_0 k3_b5_1 g3_b5_1 k3_b5_2 g3_b5_2 k3_b5_3 g3_b5_3 e3_0 B3 z3; intro f hf; have u22 : f 22 = (.int .i64 8) := (by rw [← hf]; rfl); have u23 : f 23 = (.agg #[.int .u8 r, .int .u8 g, .int .u8 b, .int .u8 a]) := (by rw [← hf]; rfl); have u24 : f 24 = (.agg #[.int .u8 s, .int .u8 t, .int .u8 u, .int .u8 d]) := (by rw [← hf]; rfl); clear hf; intro w' _; simp only [execOp, resolve, invoke, rhoF_tmp, rhoF_func, rhoF_const, u22, u23, u24, List.map_toArray, List.map_cons, List.map_nil]; go_simp
    · clear k3_b4_0 g3_b4_0 k3_b4_1 g3_b4_1 k3_b4_2 g3_b4_2 k3_b4_3 g3_b4_3 k3_b5_0 g3_b5_0 k3_b5_1 g3_b5_1 k3_b5_2 g3_b5_2 k3_b5_3 g3_b5_3 e3_0 B3 z3; rintro w' ⟨h0, h1, h2, h3, h4, h5, h6, h7, h8, h9, h10, h11, h12, h13, h14, h15, h16⟩; exact e1 _
    refine obe_val (by rfl) ?_ ?_
    · clear k3_b4_0 g3_b4_0 k3_b4_1 g3_b4_1 k3_b4_2 g3_b4_2 k3_b4_3 g3_b4_3 k3_b5_0 g3_b5_0 k3_b5_1 g3_b5_1 k3_b5_2 g3_b5_2 k3_b5_3 g3_b5_3 e3_0 B3 z3; intro f hf; have u0 : f 0 = (.int .i64 8) := (by rw [← hf]; rfl); clear hf; rintro w' ⟨h0, h1, h2, h3, h4, h5, h6, h7, h8, h9, h10, h11, h12, h13, h14, h15, h16⟩; go_simp; try exact IntWalk.i64_in _ (by omega)
    refine obe_val (by rfl) ?_ ?_
    · clear k3_b4_0 g3_b4_0 k3_b4_1 g3_b4_1 k3_b4_2 g3_b4_2 k3_b4_3 g3_b4_3 k3_b5_0 g3_b5_0 k3_b5_1 g3_b5_1 k3_b5_2 g3_b5_2 k3_b5_3 g3_b5_3 e3_0 B3 z3; intro f hf; have u5 : f 5 = (.pointer (some ⟨w.heap.size + 1, 0, none⟩)) := (by rw [← hf]; rfl); clear hf; rintro w' ⟨h0, h1, h2, h3, h4, h5, h6, h7, h8, h9, h10, h11, h12, h13, h14, h15, h16⟩; go_simp; try exact IntWalk.i64_in _ (by omega)
    refine obe_val (by rfl) ?_ ?_
    · clear k3_b4_0 g3_b4_0 k3_b4_1 g3_b4_1 k3_b4_2 g3_b4_2 k3_b4_3 g3_b4_3 k3_b5_0 g3_b5_0 k3_b5_1 g3_b5_1 k3_b5_2 g3_b5_2 k3_b5_3 g3_b5_3 e3_0 B3 z3; intro f hf; have u4 : f 4 = (.pointer (some ⟨w.heap.size, 0, none⟩)) := (by rw [← hf]; rfl); clear hf; rintro w' ⟨h0, h1, h2, h3, h4, h5, h6, h7, h8, h9, h10, h11, h12, h13, h14, h15, h16⟩; go_simp; try exact IntWalk.i64_in _ (by omega)
    refine obe_call (by rfl) ?_ ?_ ?_
    · clear k3_b4_0 g3_b4_0 k3_b4_1 g3_b4_1 k3_b4_2 g3_b4_2 k3_b4_3 g3_b4_3 k3_b5_0 g3_b5_0 k3_b5_1 g3_b5_1 k3_b5_2 g3_b5_2 k3_b5_3 g3_b5_3 e3_0 B3 z3; intro f hf; have u26 : f 26 = (.int .i64 8) := (by rw [← hf]; rfl); have u27 : f 27 = (.agg #[.int .u8 s, .int .u8 t, .int .u8 u, .int .u8 d]) := (by rw [← hf]; rfl); have u28 : f 28 = (.agg #[.int .u8 r, .int .u8 g, .int .u8 b, .int .u8 a]) := (by rw [← hf]; rfl); clear hf; intro w' _; simp only [execOp, resolve, invoke, rhoF_tmp, rhoF_func, rhoF_const, u26, u27, u28, List.map_toArray, List.map_cons, List.map_nil]; go_simp
    · clear k3_b4_0 g3_b4_0 k3_b4_1 g3_b4_1 k3_b4_2 g3_b4_2 k3_b4_3 g3_b4_3 k3_b5_0 g3_b5_0 k3_b5_1 g3_b5_1 k3_b5_2 g3_b5_2 k3_b5_3 g3_b5_3 e3_0 B3 z3; rintro w' ⟨h0, h1, h2, h3, h4, h5, h6, h7, h8, h9, h10, h11, h12, h13, h14, h15, h16⟩; exact e2 _
    refine obe_val (by rfl) ?_ ?_
    · clear k3_b4_0 g3_b4_0 k3_b4_1 g3_b4_1 k3_b4_2 g3_b4_2 k3_b4_3 g3_b4_3 k3_b5_0 g3_b5_0 k3_b5_1 g3_b5_1 k3_b5_2 g3_b5_2 k3_b5_3 g3_b5_3 e3_0 B3 z3; intro f hf; have u25 : f 25 = (.agg #[.int .u8 q0, .int .u8 q1, .int .u8 q2, .int .u8 z]) := (by rw [← hf]; rfl); have u29 : f 29 = (.agg #[.int .u8 q0, .int .u8 q1, .int .u8 q2, .int .u8 z]) := (by rw [← hf]; rfl); clear hf; rintro w' ⟨h0, h1, h2, h3, h4, h5, h6, h7, h8, h9, h10, h11, h12, h13, h14, h15, h16⟩; go_simp; try exact IntWalk.i64_in _ (by omega)
    refine obe_val (by rfl) ?_ ?_
    · clear k3_b4_0 g3_b4_0 k3_b4_1 g3_b4_1 k3_b4_2 g3_b4_2 k3_b4_3 g3_b4_3 k3_b5_0 g3_b5_0 k3_b5_1 g3_b5_1 k3_b5_2 g3_b5_2 k3_b5_3 g3_b5_3 e3_0 B3 z3; intro f hf; have u30 : f 30 = (.bool true) := (by rw [← hf]; rfl); clear hf; rintro w' ⟨h0, h1, h2, h3, h4, h5, h6, h7, h8, h9, h10, h11, h12, h13, h14, h15, h16⟩; go_simp; try exact IntWalk.i64_in _ (by omega)
    refine obe_call (by rfl) ?_ ?_ ?_
    · clear k3_b4_0 g3_b4_0 k3_b4_1 g3_b4_1 k3_b4_2 g3_b4_2 k3_b4_3 g3_b4_3 k3_b5_0 g3_b5_0 k3_b5_1 g3_b5_1 k3_b5_2 g3_b5_2 k3_b5_3 g3_b5_3 e3_0 B3 z3; intro f hf; clear hf; intro w' _; simp only [execOp, resolve, invoke, rhoF_tmp, rhoF_func, rhoF_const, List.map_toArray, List.map_cons, List.map_nil]; go_simp
    · clear k3_b4_0 g3_b4_0 k3_b4_1 g3_b4_1 k3_b4_2 g3_b4_2 k3_b4_3 g3_b4_3 k3_b5_0 g3_b5_0 k3_b5_1 g3_b5_1 k3_b5_2 g3_b5_2 k3_b5_3 g3_b5_3 e3_0 B3 z3; rintro w' ⟨h0, h1, h2, h3, h4, h5, h6, h7, h8, h9, h10, h11, h12, h13, h14, h15, h16⟩; exact bex_any _ (by assumption)
    refine obe_val (by rfl) ?_ ?_
    · clear k3_b4_0 g3_b4_0 k3_b4_1 g3_b4_1 k3_b4_2 g3_b4_2 k3_b4_3 g3_b4_3 k3_b5_0 g3_b5_0 k3_b5_1 g3_b5_1 k3_b5_2 g3_b5_2 k3_b5_3 g3_b5_3 e3_0 B3 z3; intro f hf; have u31 : f 31 = (.bool true) := (by rw [← hf]; rfl); have u32 : f 32 = (.bool true) := (by rw [← hf]; rfl); clear hf; rintro w' ⟨h0, h1, h2, h3, h4, h5, h6, h7, h8, h9, h10, h11, h12, h13, h14, h15, h16⟩; go_simp; try exact IntWalk.i64_in _ (by omega)
    refine obe_val (by rfl) ?_ ?_
    · clear k3_b4_0 g3_b4_0 k3_b4_1 g3_b4_1 k3_b4_2 g3_b4_2 k3_b4_3 g3_b4_3 k3_b5_0 g3_b5_0 k3_b5_1 g3_b5_1 k3_b5_2 g3_b5_2 k3_b5_3 g3_b5_3 e3_0 B3 z3; intro f hf; have u33 : f 33 = (.bool true) := (by rw [← hf]; rfl); clear hf; rintro w' ⟨h0, h1, h2, h3, h4, h5, h6, h7, h8, h9, h10, h11, h12, h13, h14, h15, h16⟩; go_simp; try exact IntWalk.i64_in _ (by omega)
    refine obe_nil ?_
    rintro w4 ⟨h0, h1, h2, h3, h4, h5, h6, h7, h8, h9, h10, h11, h12, h13, h14, h15, h16⟩ hb4 hF
    (try simp only [List.nil_append, List.append_nil, List.cons_append] at hF)
    simp only [puts, putD, Act.put, List.setIfInBounds_toArray, List.set_cons_zero, List.set_cons_succ]
    clear hF
    have k4_b4_0 := bcs hb4 k3_b4_0
    have g4_b4_0 := bfs hb4 k3_b4_0 g3_b4_0
    have k4_b4_1 := bcs hb4 k3_b4_1
    have g4_b4_1 := bfs hb4 k3_b4_1 g3_b4_1
    have k4_b4_2 := bcs hb4 k3_b4_2
    have g4_b4_2 := bfs hb4 k3_b4_2 g3_b4_2
    have k4_b4_3 := bcs hb4 k3_b4_3
    have g4_b4_3 := bfs hb4 k3_b4_3 g3_b4_3
    have k4_b5_0 := bcs hb4 k3_b5_0
    have g4_b5_0 := bfs hb4 k3_b5_0 g3_b5_0
    have k4_b5_1 := bcs hb4 k3_b5_1
    have g4_b5_1 := bfs hb4 k3_b5_1 g3_b5_1
    have k4_b5_2 := bcs hb4 k3_b5_2
    have g4_b5_2 := bfs hb4 k3_b5_2 g3_b5_2
    have k4_b5_3 := bcs hb4 k3_b5_3
    have g4_b5_3 := bfs hb4 k3_b5_3 g3_b5_3
    clear h0 h1 h2 h3 h4 h5 h6 h7 h8 h9 h10 h11 h12 h13 h14 h15 h16
    have B4 := bel_step B3 hb4
    have z4 := Nat.le_trans z3 hb4.size
    have e4_0 := Nm.below hN B4
    clear hb4
    (try clear B3)
    (try clear z3)
    (try clear k3_b4_0)
    (try clear g3_b4_0)
    (try clear k3_b4_1)
    (try clear g3_b4_1)
    (try clear k3_b4_2)
    (try clear g3_b4_2)
    (try clear k3_b4_3)
    (try clear g3_b4_3)
    (try clear k3_b5_0)
    (try clear g3_b5_0)
    (try clear k3_b5_1)
    (try clear g3_b5_1)
    (try clear k3_b5_2)
    (try clear g3_b5_2)
    (try clear k3_b5_3)
    (try clear g3_b5_3)
    (try clear e3_0)
    (try clear q3_b4)
    (try clear x3_b4)
    (try clear y3_b4)
    (try clear q3_b5)
    (try clear x3_b5)
    (try clear y3_b5)
    have q4_b4 : w.heap.size < w4.heap.size := qlt k4_b4_0
    have x4_b4 : ¬ w.heap.size = w4.heap.size := qne k4_b4_0
    have y4_b4 : ¬ w4.heap.size = w.heap.size := fun h => qne k4_b4_0 h.symm
    have q4_b5 : w.heap.size + 1 < w4.heap.size := qlt k4_b5_0
    have x4_b5 : ¬ w.heap.size + 1 = w4.heap.size := qne k4_b5_0
    have y4_b5 : ¬ w4.heap.size = w.heap.size + 1 := fun h => qne k4_b5_0 h.symm
    unfold wpList
    go_wp2
    go_ret
    refine ⟨rfl, ?_⟩
    repeat (first | with_reducible exact Below.refl _ _ | with_reducible exact B4 | with_reducible apply below_drewN | with_reducible apply Below.drew | (with_reducible refine Below.alloc ?_ (by first | (simp; done) | (simp; omega) | omega) _) | (with_reducible refine Below.setCell ?_ (by first | (simp; done) | (simp; omega) | omega) _))
  have n8 : (m == 8) = false := by simpa using k8
  clear k8
  clear hz
  go_enter Tryd.func8, Tryd.ntmps8
  go_wp2
  refine wp_region_env (fun w' => w'.cell? ⟨w.heap.size, 0, none⟩ = some (.int .u8 r) ∧ w'.frozen? ⟨w.heap.size, 0, none⟩ = false ∧ w'.cell? ⟨w.heap.size, 1, none⟩ = some (.int .u8 g) ∧ w'.frozen? ⟨w.heap.size, 1, none⟩ = false ∧ w'.cell? ⟨w.heap.size, 2, none⟩ = some (.int .u8 b) ∧ w'.frozen? ⟨w.heap.size, 2, none⟩ = false ∧ w'.cell? ⟨w.heap.size, 3, none⟩ = some (.int .u8 a) ∧ w'.frozen? ⟨w.heap.size, 3, none⟩ = false ∧ w'.cell? ⟨w.heap.size + 1, 0, none⟩ = some (.int .u8 s) ∧ w'.frozen? ⟨w.heap.size + 1, 0, none⟩ = false ∧ w'.cell? ⟨w.heap.size + 1, 1, none⟩ = some (.int .u8 t) ∧ w'.frozen? ⟨w.heap.size + 1, 1, none⟩ = false ∧ w'.cell? ⟨w.heap.size + 1, 2, none⟩ = some (.int .u8 u) ∧ w'.frozen? ⟨w.heap.size + 1, 2, none⟩ = false ∧ w'.cell? ⟨w.heap.size + 1, 3, none⟩ = some (.int .u8 d) ∧ w'.frozen? ⟨w.heap.size + 1, 3, none⟩ = false ∧ Nm w') (fun W => W.cell? ⟨w.heap.size, 0, none⟩ = some (.int .u8 r) ∧ W.frozen? ⟨w.heap.size, 0, none⟩ = false ∧ W.cell? ⟨w.heap.size, 1, none⟩ = some (.int .u8 g) ∧ W.frozen? ⟨w.heap.size, 1, none⟩ = false ∧ W.cell? ⟨w.heap.size, 2, none⟩ = some (.int .u8 b) ∧ W.frozen? ⟨w.heap.size, 2, none⟩ = false ∧ W.cell? ⟨w.heap.size, 3, none⟩ = some (.int .u8 a) ∧ W.frozen? ⟨w.heap.size, 3, none⟩ = false ∧ W.cell? ⟨w.heap.size + 1, 0, none⟩ = some (.int .u8 s) ∧ W.frozen? ⟨w.heap.size + 1, 0, none⟩ = false ∧ W.cell? ⟨w.heap.size + 1, 1, none⟩ = some (.int .u8 t) ∧ W.frozen? ⟨w.heap.size + 1, 1, none⟩ = false ∧ W.cell? ⟨w.heap.size + 1, 2, none⟩ = some (.int .u8 u) ∧ W.frozen? ⟨w.heap.size + 1, 2, none⟩ = false ∧ W.cell? ⟨w.heap.size + 1, 3, none⟩ = some (.int .u8 d) ∧ W.frozen? ⟨w.heap.size + 1, 3, none⟩ = false ∧ Nm W ∧ Below w.heap.size w W ∧ w.heap.size + 1 + 1 ≤ W.heap.size) 7 35 [.val (.agg #[.int .u8 r, .int .u8 g, .int .u8 b, .int .u8 a]), .val (.agg #[.int .u8 s, .int .u8 t, .int .u8 u, .int .u8 d]), .call 23 #[.int .i64 9, .agg #[.int .u8 r, .int .u8 g, .int .u8 b, .int .u8 a], .agg #[.int .u8 s, .int .u8 t, .int .u8 u, .int .u8 d]] (.agg #[.int .u8 y0, .int .u8 y1, .int .u8 y2, .int .u8 z]), .val (.agg #[.int .u8 s, .int .u8 t, .int .u8 u, .int .u8 d]), .val (.agg #[.int .u8 r, .int .u8 g, .int .u8 b, .int .u8 a]), .call 23 #[.int .i64 4, .agg #[.int .u8 s, .int .u8 t, .int .u8 u, .int .u8 d], .agg #[.int .u8 r, .int .u8 g, .int .u8 b, .int .u8 a]] (.agg #[.int .u8 y0, .int .u8 y1, .int .u8 y2, .int .u8 z]), .val (.bool false)] (by kernel_rfl) (by kernel_rfl) rfl (by kernel_rfl) (by rintro w1 w2 ⟨h0, h1, h2, h3, h4, h5, h6, h7, h8, h9, h10, h11, h12, h13, h14, h15, h16⟩ hb; exact ⟨bcs hb h0, bfs hb h0 h1, bcs hb h2, bfs hb h2 h3, bcs hb h4, bfs hb h4 h5, bcs hb h6, bfs hb h6 h7, bcs hb h8, bfs hb h8 h9, bcs hb h10, bfs hb h10 h11, bcs hb h12, bfs hb h12 h13, bcs hb h14, bfs hb h14 h15, Nm.below h16 hb⟩) ⟨by first | with_reducible assumption | go_simp, by first | with_reducible assumption | go_simp, by first | with_reducible assumption | go_simp, by first | with_reducible assumption | go_simp, by first | with_reducible assumption | go_simp, by first | with_reducible assumption | go_simp, by first | with_reducible assumption | go_simp, by first | with_reducible assumption | go_simp, by first | with_reducible assumption | go_simp, by first | with_reducible assumption | go_simp, by first | with_reducible assumption | go_simp, by first | with_reducible assumption | go_simp, by first | with_reducible assumption | go_simp, by first | with_reducible assumption | go_simp, by first | with_reducible assumption | go_simp, by first | with_reducible assumption | go_simp, Nm.below hN (by repeat (first | with_reducible exact Below.refl _ _ | fail | with_reducible apply below_drewN | with_reducible apply Below.drew | (with_reducible refine Below.alloc ?_ (by first | (simp; done) | (simp; omega) | omega) _) | (with_reducible refine Below.setCell ?_ (by first | (simp; done) | (simp; omega) | omega) _))), by repeat (first | with_reducible exact Below.refl _ _ | fail | with_reducible apply below_drewN | with_reducible apply Below.drew | (with_reducible refine Below.alloc ?_ (by first | (simp; done) | (simp; omega) | omega) _) | (with_reducible refine Below.setCell ?_ (by first | (simp; done) | (simp; omega) | omega) _)), by first | with_reducible assumption | (simp; done) | (simp; omega)⟩ ?_ ?_
  · rintro W ⟨k1_b4_0, g1_b4_0, k1_b4_1, g1_b4_1, k1_b4_2, g1_b4_2, k1_b4_3, g1_b4_3, k1_b5_0, g1_b5_0, k1_b5_1, g1_b5_1, k1_b5_2, g1_b5_2, k1_b5_3, g1_b5_3, e1_0, B1, z1⟩; exact ⟨k1_b4_0, g1_b4_0, k1_b4_1, g1_b4_1, k1_b4_2, g1_b4_2, k1_b4_3, g1_b4_3, k1_b5_0, g1_b5_0, k1_b5_1, g1_b5_1, k1_b5_2, g1_b5_2, k1_b5_3, g1_b5_3, e1_0⟩
  rintro w1 ⟨k1_b4_0, g1_b4_0, k1_b4_1, g1_b4_1, k1_b4_2, g1_b4_2, k1_b4_3, g1_b4_3, k1_b5_0, g1_b5_0, k1_b5_1, g1_b5_1, k1_b5_2, g1_b5_2, k1_b5_3, g1_b5_3, e1_0, B1, z1⟩ gg
  simp only [List.take_succ_cons, List.take_zero, List.drop_succ_cons, List.drop_zero, List.cons_append, List.nil_append, List.append_nil]
  refine obe_val (by rfl) ?_ ?_
  · clear k1_b4_0 g1_b4_0 k1_b4_1 g1_b4_1 k1_b4_2 g1_b4_2 k1_b4_3 g1_b4_3 k1_b5_0 g1_b5_0 k1_b5_1 g1_b5_1 k1_b5_2 g1_b5_2 k1_b5_3 g1_b5_3 e1_0 B1 z1; intro f hf; have u4 : f 4 = (.pointer (some ⟨w.heap.size, 0, none⟩)) := (by rw [← hf]; rfl); clear hf; rintro w' ⟨h0, h1, h2, h3, h4, h5, h6, h7, h8, h9, h10, h11, h12, h13, h14, h15, h16⟩; go_simp; try exact IntWalk.i64_in _ (by omega)
  refine obe_val (by rfl) ?_ ?_
  · clear k1_b4_0 g1_b4_0 k1_b4_1 g1_b4_1 k1_b4_2 g1_b4_2 k1_b4_3 g1_b4_3 k1_b5_0 g1_b5_0 k1_b5_1 g1_b5_1 k1_b5_2 g1_b5_2 k1_b5_3 g1_b5_3 e1_0 B1 z1; intro f hf; have u5 : f 5 = (.pointer (some ⟨w.heap.size + 1, 0, none⟩)) := (by rw [← hf]; rfl); clear hf; rintro w' ⟨h0, h1, h2, h3, h4, h5, h6, h7, h8, h9, h10, h11, h12, h13, h14, h15, h16⟩; go_simp; try exact IntWalk.i64_in _ (by omega)
  refine obe_call (by rfl) ?_ ?_ ?_
  · clear k1_b4_0 g1_b4_0 k1_b4_1 g1_b4_1 k1_b4_2 g1_b4_2 k1_b4_3 g1_b4_3 k1_b5_0 g1_b5_0 k1_b5_1 g1_b5_1 k1_b5_2 g1_b5_2 k1_b5_3 g1_b5_3 e1_0 B1 z1; intro f hf; have u7 : f 7 = (.agg #[.int .u8 r, .int .u8 g, .int .u8 b, .int .u8 a]) := (by rw [← hf]; rfl); have u8 : f 8 = (.agg #[.int .u8 s, .int .u8 t, .int .u8 u, .int .u8 d]) := (by rw [← hf]; rfl); clear hf; intro w' _; simp only [execOp, resolve, invoke, rhoF_tmp, rhoF_func, rhoF_const, u7, u8, List.map_toArray, List.map_cons, List.map_nil]; go_simp
  · clear k1_b4_0 g1_b4_0 k1_b4_1 g1_b4_1 k1_b4_2 g1_b4_2 k1_b4_3 g1_b4_3 k1_b5_0 g1_b5_0 k1_b5_1 g1_b5_1 k1_b5_2 g1_b5_2 k1_b5_3 g1_b5_3 e1_0 B1 z1; rintro w' ⟨h0, h1, h2, h3, h4, h5, h6, h7, h8, h9, h10, h11, h12, h13, h14, h15, h16⟩; exact c9 _
  refine obe_val (by rfl) ?_ ?_
  · clear k1_b4_0 g1_b4_0 k1_b4_1 g1_b4_1 k1_b4_2 g1_b4_2 k1_b4_3 g1_b4_3 k1_b5_0 g1_b5_0 k1_b5_1 g1_b5_1 k1_b5_2 g1_b5_2 k1_b5_3 g1_b5_3 e1_0 B1 z1; intro f hf; have u5 : f 5 = (.pointer (some ⟨w.heap.size + 1, 0, none⟩)) := (by rw [← hf]; rfl); clear hf; rintro w' ⟨h0, h1, h2, h3, h4, h5, h6, h7, h8, h9, h10, h11, h12, h13, h14, h15, h16⟩; go_simp; try exact IntWalk.i64_in _ (by omega)
  refine obe_val (by rfl) ?_ ?_
  · clear k1_b4_0 g1_b4_0 k1_b4_1 g1_b4_1 k1_b4_2 g1_b4_2 k1_b4_3 g1_b4_3 k1_b5_0 g1_b5_0 k1_b5_1 g1_b5_1 k1_b5_2 g1_b5_2 k1_b5_3 g1_b5_3 e1_0 B1 z1; intro f hf; have u4 : f 4 = (.pointer (some ⟨w.heap.size, 0, none⟩)) := (by rw [← hf]; rfl); clear hf; rintro w' ⟨h0, h1, h2, h3, h4, h5, h6, h7, h8, h9, h10, h11, h12, h13, h14, h15, h16⟩; go_simp; try exact IntWalk.i64_in _ (by omega)
  refine obe_call (by rfl) ?_ ?_ ?_
  · clear k1_b4_0 g1_b4_0 k1_b4_1 g1_b4_1 k1_b4_2 g1_b4_2 k1_b4_3 g1_b4_3 k1_b5_0 g1_b5_0 k1_b5_1 g1_b5_1 k1_b5_2 g1_b5_2 k1_b5_3 g1_b5_3 e1_0 B1 z1; intro f hf; have u10 : f 10 = (.agg #[.int .u8 s, .int .u8 t, .int .u8 u, .int .u8 d]) := (by rw [← hf]; rfl); have u11 : f 11 = (.agg #[.int .u8 r, .int .u8 g, .int .u8 b, .int .u8 a]) := (by rw [← hf]; rfl); clear hf; intro w' _; simp only [execOp, resolve, invoke, rhoF_tmp, rhoF_func, rhoF_const, u10, u11, List.map_toArray, List.map_cons, List.map_nil]; go_simp
  · clear k1_b4_0 g1_b4_0 k1_b4_1 g1_b4_1 k1_b4_2 g1_b4_2 k1_b4_3 g1_b4_3 k1_b5_0 g1_b5_0 k1_b5_1 g1_b5_1 k1_b5_2 g1_b5_2 k1_b5_3 g1_b5_3 e1_0 B1 z1; rintro w' ⟨h0, h1, h2, h3, h4, h5, h6, h7, h8, h9, h10, h11, h12, h13, h14, h15, h16⟩; exact c4 _
  refine obe_val (by rfl) ?_ ?_
  · clear k1_b4_0 g1_b4_0 k1_b4_1 g1_b4_1 k1_b4_2 g1_b4_2 k1_b4_3 g1_b4_3 k1_b5_0 g1_b5_0 k1_b5_1 g1_b5_1 k1_b5_2 g1_b5_2 k1_b5_3 g1_b5_3 e1_0 B1 z1; intro f hf; have u9 : f 9 = (.agg #[.int .u8 y0, .int .u8 y1, .int .u8 y2, .int .u8 z]) := (by rw [← hf]; rfl); have u12 : f 12 = (.agg #[.int .u8 y0, .int .u8 y1, .int .u8 y2, .int .u8 z]) := (by rw [← hf]; rfl); clear hf; rintro w' ⟨h0, h1, h2, h3, h4, h5, h6, h7, h8, h9, h10, h11, h12, h13, h14, h15, h16⟩; go_simp; try exact IntWalk.i64_in _ (by omega)
  refine obe_nil ?_
  rintro w2 ⟨h0, h1, h2, h3, h4, h5, h6, h7, h8, h9, h10, h11, h12, h13, h14, h15, h16⟩ hb2 hF
  (try simp only [List.nil_append, List.append_nil, List.cons_append] at hF)
  simp only [puts, putD, Act.put, List.setIfInBounds_toArray, List.set_cons_zero, List.set_cons_succ]
  clear hF
  have k2_b4_0 := bcs hb2 k1_b4_0
  have g2_b4_0 := bfs hb2 k1_b4_0 g1_b4_0
  have k2_b4_1 := bcs hb2 k1_b4_1
  have g2_b4_1 := bfs hb2 k1_b4_1 g1_b4_1
  have k2_b4_2 := bcs hb2 k1_b4_2
  have g2_b4_2 := bfs hb2 k1_b4_2 g1_b4_2
  have k2_b4_3 := bcs hb2 k1_b4_3
  have g2_b4_3 := bfs hb2 k1_b4_3 g1_b4_3
  have k2_b5_0 := bcs hb2 k1_b5_0
  have g2_b5_0 := bfs hb2 k1_b5_0 g1_b5_0
  have k2_b5_1 := bcs hb2 k1_b5_1
  have g2_b5_1 := bfs hb2 k1_b5_1 g1_b5_1
  have k2_b5_2 := bcs hb2 k1_b5_2
  have g2_b5_2 := bfs hb2 k1_b5_2 g1_b5_2
  have k2_b5_3 := bcs hb2 k1_b5_3
  have g2_b5_3 := bfs hb2 k1_b5_3 g1_b5_3
  clear h0 h1 h2 h3 h4 h5 h6 h7 h8 h9 h10 h11 h12 h13 h14 h15 h16
  have B2 := bel_step B1 hb2
  have z2 := Nat.le_trans z1 hb2.size
  have e2_0 := Nm.below hN B2
  clear hb2
  (try clear B1)
  (try clear z1)
  (try clear k1_b4_0)
  (try clear g1_b4_0)
  (try clear k1_b4_1)
  (try clear g1_b4_1)
  (try clear k1_b4_2)
  (try clear g1_b4_2)
  (try clear k1_b4_3)
  (try clear g1_b4_3)
  (try clear k1_b5_0)
  (try clear g1_b5_0)
  (try clear k1_b5_1)
  (try clear g1_b5_1)
  (try clear k1_b5_2)
  (try clear g1_b5_2)
  (try clear k1_b5_3)
  (try clear g1_b5_3)
  (try clear e1_0)
  (try clear q1_b4)
  (try clear x1_b4)
  (try clear y1_b4)
  (try clear q1_b5)
  (try clear x1_b5)
  (try clear y1_b5)
  have q2_b4 : w.heap.size < w2.heap.size := qlt k2_b4_0
  have x2_b4 : ¬ w.heap.size = w2.heap.size := qne k2_b4_0
  have y2_b4 : ¬ w2.heap.size = w.heap.size := fun h => qne k2_b4_0 h.symm
  have q2_b5 : w.heap.size + 1 < w2.heap.size := qlt k2_b5_0
  have x2_b5 : ¬ w.heap.size + 1 = w2.heap.size := qne k2_b5_0
  have y2_b5 : ¬ w2.heap.size = w.heap.size + 1 := fun h => qne k2_b5_0 h.symm
  unfold wpList
  go_wp2_with (first | (go_at_call 20; (with_reducible refine (bex_any _ (by assumption)).mono ?_); rintro e w3 ⟨rfl, hb3⟩; have k3_b4_0 : w3.cell? ⟨w.heap.size, 0, none⟩ = some (.int .u8 r) := bcs hb3 (by go_simp); have g3_b4_0 : w3.frozen? ⟨w.heap.size, 0, none⟩ = false := bfs hb3 (v := .int .u8 r) (by go_simp) (by go_simp); have k3_b4_1 : w3.cell? ⟨w.heap.size, 1, none⟩ = some (.int .u8 g) := bcs hb3 (by go_simp); have g3_b4_1 : w3.frozen? ⟨w.heap.size, 1, none⟩ = false := bfs hb3 (v := .int .u8 g) (by go_simp) (by go_simp); have k3_b4_2 : w3.cell? ⟨w.heap.size, 2, none⟩ = some (.int .u8 b) := bcs hb3 (by go_simp); have g3_b4_2 : w3.frozen? ⟨w.heap.size, 2, none⟩ = false := bfs hb3 (v := .int .u8 b) (by go_simp) (by go_simp); have k3_b4_3 : w3.cell? ⟨w.heap.size, 3, none⟩ = some (.int .u8 a) := bcs hb3 (by go_simp); have g3_b4_3 : w3.frozen? ⟨w.heap.size, 3, none⟩ = false := bfs hb3 (v := .int .u8 a) (by go_simp) (by go_simp); have k3_b5_0 : w3.cell? ⟨w.heap.size + 1, 0, none⟩ = some (.int .u8 s) := bcs hb3 (by go_simp); have g3_b5_0 : w3.frozen? ⟨w.heap.size + 1, 0, none⟩ = false := bfs hb3 (v := .int .u8 s) (by go_simp) (by go_simp); have k3_b5_1 : w3.cell? ⟨w.heap.size + 1, 1, none⟩ = some (.int .u8 t) := bcs hb3 (by go_simp); have g3_b5_1 : w3.frozen? ⟨w.heap.size + 1, 1, none⟩ = false := bfs hb3 (v := .int .u8 t) (by go_simp) (by go_simp); have k3_b5_2 : w3.cell? ⟨w.heap.size + 1, 2, none⟩ = some (.int .u8 u) := bcs hb3 (by go_simp); have g3_b5_2 : w3.frozen? ⟨w.heap.size + 1, 2, none⟩ = false := bfs hb3 (v := .int .u8 u) (by go_simp) (by go_simp); have k3_b5_3 : w3.cell? ⟨w.heap.size + 1, 3, none⟩ = some (.int .u8 d) := bcs hb3 (by go_simp); have g3_b5_3 : w3.frozen? ⟨w.heap.size + 1, 3, none⟩ = false := bfs hb3 (v := .int .u8 d) (by go_simp) (by go_simp); have q3_b4 : w.heap.size < w3.heap.size := qlt k3_b4_0; have x3_b4 : ¬ w.heap.size = w3.heap.size := qne k3_b4_0; have y3_b4 : ¬ w3.heap.size = w.heap.size := fun h => qne k3_b4_0 h.symm; have q3_b5 : w.heap.size + 1 < w3.heap.size := qlt k3_b5_0; have x3_b5 : ¬ w.heap.size + 1 = w3.heap.size := qne k3_b5_0; have y3_b5 : ¬ w3.heap.size = w.heap.size + 1 := fun h => qne k3_b5_0 h.symm; have B3 : Below w.heap.size w w3 := bel_step (by repeat (first | with_reducible exact Below.refl _ _ | with_reducible exact B2 | with_reducible apply below_drewN | with_reducible apply Below.drew | (with_reducible refine Below.alloc ?_ (by first | (simp; done) | (simp; omega) | omega) _) | (with_reducible refine Below.setCell ?_ (by first | (simp; done) | (simp; omega) | omega) _))) hb3; have z3 : w.heap.size + 1 + 1 ≤ w3.heap.size := Nat.le_trans (by first | with_reducible assumption | (simp; done) | (simp; omega)) hb3.size; have e3_0 := Nm.below hN B3; clear hb3; (try clear k2_b4_0); (try clear g2_b4_0); (try clear k2_b4_1); (try clear g2_b4_1); (try clear k2_b4_2); (try clear g2_b4_2); (try clear k2_b4_3); (try clear g2_b4_3); (try clear k2_b5_0); (try clear g2_b5_0); (try clear k2_b5_1); (try clear g2_b5_1); (try clear k2_b5_2); (try clear g2_b5_2); (try clear k2_b5_3); (try clear g2_b5_3); (try clear e2_0); (try clear B2); (try clear z2); (try clear q2_b4); (try clear x2_b4); (try clear y2_b4); (try clear q2_b5); (try clear x2_b5); (try clear y2_b5)))
  go_ret
  refine ⟨rfl, ?_⟩
  repeat (first | with_reducible exact Below.refl _ _ | with_reducible exact B3 | with_reducible apply below_drewN | with_reducible apply Below.drew | (with_reducible refine Below.alloc ?_ (by first | (simp; done) | (simp; omega) | omega) _) | (with_reducible refine Below.setCell ?_ (by first | (simp; done) | (simp; omega) | omega) _))
end Go.Proofs.YtdhajiaepaamgaaDoor
