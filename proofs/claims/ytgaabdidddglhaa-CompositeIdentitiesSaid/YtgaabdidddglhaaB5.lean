import Derived.Test.YtgaabdidddglhaaB4
import Derived.WalkKit
import Derived.WalkSpells
import Derived.WalkLawsBesides
import Derived.Lib.Hide
import Derived.Below
import Derived.Deep.QuietTactic
import Derived.BigQuiet
import Derived.Deep.RegionHeld3
import Derived.Deep.DrawnRows
import Derived.Deep.DeepFit
import Derived.IntWalk
namespace Go.Proofs.Ytgaabdidddglhaa
open Go.RowKit
set_option linter.unusedVariables false
set_option linter.unusedSimpArgs false
attribute [local go_sem ↓] Go.wp_at_zero Go.wp_at_succ
attribute [local go_sem] rhoF_tmp rhoF_const rhoF_global rhoF_func

set_option maxHeartbeats 4000000 in
theorem blend_any (m r g b a s t u d : Int) (m0 : 1 ≤ m) (m1 : m ≤ 9) (r0 : 0 ≤ r) (r1 : r ≤ 255) (g0 : 0 ≤ g) (g1 : g ≤ 255) (b0 : 0 ≤ b) (b1 : b ≤ 255) (a0 : 0 ≤ a) (a1 : a ≤ 255) (s0 : 0 ≤ s) (s1 : s ≤ 255) (t0 : 0 ≤ t) (t1 : t ≤ 255) (u0 : 0 ≤ u) (u1 : u ≤ 255) (d0 : 0 ≤ d) (d1 : d ≤ 255) (w : World) :
    Calls Try.prog 29 #[.int .i64 m, .agg #[.int .u8 r, .int .u8 g, .int .u8 b, .int .u8 a], .agg #[.int .u8 s, .int .u8 t, .int .u8 u, .int .u8 d]] w fun e w' => e = .returned (.agg #[.int .u8 (bc m (min r a) a (min s d) d), .int .u8 (bc m (min g a) a (min t d) d), .int .u8 (bc m (min b a) a (min u d) d), .int .u8 (divN (unc a a d d + a * d))]) ∧ Below w.heap.size w w' := by
  have cv := fun w => validM_any m w
  rw [show (decide (1 ≤ m) && decide (m ≤ 13)) = true by simp; omega] at cv
  have ci := fun w => isSep_any m w
  rw [show (decide (1 ≤ m) && decide (m ≤ 9)) = true by simp; omega] at ci
  obtain ⟨cr, hr⟩ : ∃ x, min r a = x := ⟨_, rfl⟩
  obtain ⟨cg, hg⟩ : ∃ x, min g a = x := ⟨_, rfl⟩
  obtain ⟨cb, hb⟩ : ∃ x, min b a = x := ⟨_, rfl⟩
  obtain ⟨cs, hs⟩ : ∃ x, min s d = x := ⟨_, rfl⟩
  obtain ⟨ct, ht⟩ : ∃ x, min t d = x := ⟨_, rfl⟩
  obtain ⟨cu, hu⟩ : ∃ x, min u d = x := ⟨_, rfl⟩
  have cb_ := fun w => bcomp_any m cr cg cb a cs ct cu d (by omega) (by omega) (by omega) (by omega) (by omega) (by omega) a0 a1 (by omega) (by omega) (by omega) (by omega) (by omega) (by omega) d0 d1 w
  have cu_ := fun w => unc_any a a d d (by omega) w
  have cd := fun w => divNorm8_any (unc a a d d + a * d) w
  have bu := (unc_bd (s := a) (sa := a) (d := d) (da := d) (by omega)).2.2.2.2
  have ad0 : 0 ≤ a * d := Int.mul_nonneg a0 d0
  have ad1 : a * d ≤ 255 * 255 := Int.mul_le_mul a1 d1 d0 (by omega)
  rw [hr, hg, hb, hs, ht, hu]
  obtain ⟨x0, hx0⟩ : ∃ x, bc m cr a cs d = x := ⟨_, rfl⟩
  obtain ⟨x1, hx1⟩ : ∃ x, bc m cg a ct d = x := ⟨_, rfl⟩
  obtain ⟨x2, hx2⟩ : ∃ x, bc m cb a cu d = x := ⟨_, rfl⟩
  rw [hx0, hx1, hx2] at cb_ ⊢
  clear hx0 hx1 hx2
  obtain ⟨z, hz⟩ : ∃ x, divN (unc a a d d + a * d) = x := ⟨_, rfl⟩
  rw [hz] at cd ⊢
  clear hz
  obtain ⟨y, hy⟩ : ∃ x, unc a a d d = x := ⟨_, rfl⟩
  rw [hy] at cu_ cd bu
  clear hy
  go_enter Try.func29, Try.ntmps29
  go_wp2_with (first | (go_at_call 34; (with_reducible refine (cv _).mono ?_); rintro e w9 ⟨rfl, rfl⟩))
  refine wp_region_env (fun w' => w'.cell? ⟨w.heap.size, 0, none⟩ = some (.int .u8 r) ∧ w'.frozen? ⟨w.heap.size, 0, none⟩ = false ∧ w'.cell? ⟨w.heap.size, 1, none⟩ = some (.int .u8 g) ∧ w'.frozen? ⟨w.heap.size, 1, none⟩ = false ∧ w'.cell? ⟨w.heap.size, 2, none⟩ = some (.int .u8 b) ∧ w'.frozen? ⟨w.heap.size, 2, none⟩ = false ∧ w'.cell? ⟨w.heap.size, 3, none⟩ = some (.int .u8 a) ∧ w'.frozen? ⟨w.heap.size, 3, none⟩ = false ∧ w'.cell? ⟨w.heap.size + 1, 0, none⟩ = some (.int .u8 s) ∧ w'.frozen? ⟨w.heap.size + 1, 0, none⟩ = false ∧ w'.cell? ⟨w.heap.size + 1, 1, none⟩ = some (.int .u8 t) ∧ w'.frozen? ⟨w.heap.size + 1, 1, none⟩ = false ∧ w'.cell? ⟨w.heap.size + 1, 2, none⟩ = some (.int .u8 u) ∧ w'.frozen? ⟨w.heap.size + 1, 2, none⟩ = false ∧ w'.cell? ⟨w.heap.size + 1, 3, none⟩ = some (.int .u8 d) ∧ w'.frozen? ⟨w.heap.size + 1, 3, none⟩ = false ∧ w'.cell? ⟨w.heap.size + 1 + 1, 0, none⟩ = some (.int .u8 0) ∧ w'.frozen? ⟨w.heap.size + 1 + 1, 0, none⟩ = false ∧ w'.cell? ⟨w.heap.size + 1 + 1, 1, none⟩ = some (.int .u8 0) ∧ w'.frozen? ⟨w.heap.size + 1 + 1, 1, none⟩ = false ∧ w'.cell? ⟨w.heap.size + 1 + 1, 2, none⟩ = some (.int .u8 0) ∧ w'.frozen? ⟨w.heap.size + 1 + 1, 2, none⟩ = false ∧ w'.cell? ⟨w.heap.size + 1 + 1, 3, none⟩ = some (.int .u8 0) ∧ w'.frozen? ⟨w.heap.size + 1 + 1, 3, none⟩ = false) (fun W => W.cell? ⟨w.heap.size, 0, none⟩ = some (.int .u8 r) ∧ W.frozen? ⟨w.heap.size, 0, none⟩ = false ∧ W.cell? ⟨w.heap.size, 1, none⟩ = some (.int .u8 g) ∧ W.frozen? ⟨w.heap.size, 1, none⟩ = false ∧ W.cell? ⟨w.heap.size, 2, none⟩ = some (.int .u8 b) ∧ W.frozen? ⟨w.heap.size, 2, none⟩ = false ∧ W.cell? ⟨w.heap.size, 3, none⟩ = some (.int .u8 a) ∧ W.frozen? ⟨w.heap.size, 3, none⟩ = false ∧ W.cell? ⟨w.heap.size + 1, 0, none⟩ = some (.int .u8 s) ∧ W.frozen? ⟨w.heap.size + 1, 0, none⟩ = false ∧ W.cell? ⟨w.heap.size + 1, 1, none⟩ = some (.int .u8 t) ∧ W.frozen? ⟨w.heap.size + 1, 1, none⟩ = false ∧ W.cell? ⟨w.heap.size + 1, 2, none⟩ = some (.int .u8 u) ∧ W.frozen? ⟨w.heap.size + 1, 2, none⟩ = false ∧ W.cell? ⟨w.heap.size + 1, 3, none⟩ = some (.int .u8 d) ∧ W.frozen? ⟨w.heap.size + 1, 3, none⟩ = false ∧ W.cell? ⟨w.heap.size + 1 + 1, 0, none⟩ = some (.int .u8 0) ∧ W.frozen? ⟨w.heap.size + 1 + 1, 0, none⟩ = false ∧ W.cell? ⟨w.heap.size + 1 + 1, 1, none⟩ = some (.int .u8 0) ∧ W.frozen? ⟨w.heap.size + 1 + 1, 1, none⟩ = false ∧ W.cell? ⟨w.heap.size + 1 + 1, 2, none⟩ = some (.int .u8 0) ∧ W.frozen? ⟨w.heap.size + 1 + 1, 2, none⟩ = false ∧ W.cell? ⟨w.heap.size + 1 + 1, 3, none⟩ = some (.int .u8 0) ∧ W.frozen? ⟨w.heap.size + 1 + 1, 3, none⟩ = false ∧ Below w.heap.size w W ∧ w.heap.size + 1 + 1 + 1 ≤ W.heap.size) 4 51 [.val (.agg #[.int .u8 r, .int .u8 g, .int .u8 b, .int .u8 a]), .call 25 #[.agg #[.int .u8 r, .int .u8 g, .int .u8 b, .int .u8 a]] (.agg #[.int .u8 cr, .int .u8 cg, .int .u8 cb, .int .u8 a]), .val (.agg #[.int .u8 s, .int .u8 t, .int .u8 u, .int .u8 d]), .call 25 #[.agg #[.int .u8 s, .int .u8 t, .int .u8 u, .int .u8 d]] (.agg #[.int .u8 cs, .int .u8 ct, .int .u8 cu, .int .u8 d])] (by kernel_rfl) (by kernel_rfl) rfl (by kernel_rfl) (by rintro w1 w2 ⟨h0, h1, h2, h3, h4, h5, h6, h7, h8, h9, h10, h11, h12, h13, h14, h15, h16, h17, h18, h19, h20, h21, h22, h23⟩ hb; exact ⟨bcs hb h0, bfs hb h0 h1, bcs hb h2, bfs hb h2 h3, bcs hb h4, bfs hb h4 h5, bcs hb h6, bfs hb h6 h7, bcs hb h8, bfs hb h8 h9, bcs hb h10, bfs hb h10 h11, bcs hb h12, bfs hb h12 h13, bcs hb h14, bfs hb h14 h15, bcs hb h16, bfs hb h16 h17, bcs hb h18, bfs hb h18 h19, bcs hb h20, bfs hb h20 h21, bcs hb h22, bfs hb h22 h23⟩) ⟨by first | with_reducible assumption | go_simp, by first | with_reducible assumption | go_simp, by first | with_reducible assumption | go_simp, by first | with_reducible assumption | go_simp, by first | with_reducible assumption | go_simp, by first | with_reducible assumption | go_simp, by first | with_reducible assumption | go_simp, by first | with_reducible assumption | go_simp, by first | with_reducible assumption | go_simp, by first | with_reducible assumption | go_simp, by first | with_reducible assumption | go_simp, by first | with_reducible assumption | go_simp, by first | with_reducible assumption | go_simp, by first | with_reducible assumption | go_simp, by first | with_reducible assumption | go_simp, by first | with_reducible assumption | go_simp, by first | with_reducible assumption | go_simp, by first | with_reducible assumption | go_simp, by first | with_reducible assumption | go_simp, by first | with_reducible assumption | go_simp, by first | with_reducible assumption | go_simp, by first | with_reducible assumption | go_simp, by first | with_reducible assumption | go_simp, by first | with_reducible assumption | go_simp, by repeat (first | with_reducible exact Below.refl _ _ | fail | with_reducible apply below_drewN | with_reducible apply Below.drew | (with_reducible refine Below.alloc ?_ (by first | (simp; done) | (simp; omega) | omega) _) | (with_reducible refine Below.setCell ?_ (by first | (simp; done) | (simp; omega) | omega) _)), by first | with_reducible assumption | (simp; done) | (simp; omega)⟩ ?_ ?_
  · rintro W ⟨k1_b4_0, g1_b4_0, k1_b4_1, g1_b4_1, k1_b4_2, g1_b4_2, k1_b4_3, g1_b4_3, k1_b5_0, g1_b5_0, k1_b5_1, g1_b5_1, k1_b5_2, g1_b5_2, k1_b5_3, g1_b5_3, k1_b6_0, g1_b6_0, k1_b6_1, g1_b6_1, k1_b6_2, g1_b6_2, k1_b6_3, g1_b6_3, B1, z1⟩; exact ⟨k1_b4_0, g1_b4_0, k1_b4_1, g1_b4_1, k1_b4_2, g1_b4_2, k1_b4_3, g1_b4_3, k1_b5_0, g1_b5_0, k1_b5_1, g1_b5_1, k1_b5_2, g1_b5_2, k1_b5_3, g1_b5_3, k1_b6_0, g1_b6_0, k1_b6_1, g1_b6_1, k1_b6_2, g1_b6_2, k1_b6_3, g1_b6_3⟩
  rintro w1 ⟨k1_b4_0, g1_b4_0, k1_b4_1, g1_b4_1, k1_b4_2, g1_b4_2, k1_b4_3, g1_b4_3, k1_b5_0, g1_b5_0, k1_b5_1, g1_b5_1, k1_b5_2, g1_b5_2, k1_b5_3, g1_b5_3, k1_b6_0, g1_b6_0, k1_b6_1, g1_b6_1, k1_b6_2, g1_b6_2, k1_b6_3, g1_b6_3, B1, z1⟩ gg
  simp only [List.take_succ_cons, List.take_zero, List.drop_succ_cons, List.drop_zero, List.cons_append, List.nil_append, List.append_nil]
  refine obe_val (by rfl) ?_ ?_
  · clear k1_b4_0 g1_b4_0 k1_b4_1 g1_b4_1 k1_b4_2 g1_b4_2 k1_b4_3 g1_b4_3 k1_b5_0 g1_b5_0 k1_b5_1 g1_b5_1 k1_b5_2 g1_b5_2 k1_b5_3 g1_b5_3 k1_b6_0 g1_b6_0 k1_b6_1 g1_b6_1 k1_b6_2 g1_b6_2 k1_b6_3 g1_b6_3 B1 z1; intro f hf; have u4 : f 4 = (.pointer (some ⟨w.heap.size, 0, none⟩)) := (by rw [← hf]; rfl); clear hf; rintro w' ⟨h0, h1, h2, h3, h4, h5, h6, h7, h8, h9, h10, h11, h12, h13, h14, h15, h16, h17, h18, h19, h20, h21, h22, h23⟩; go_simp; try exact IntWalk.i64_in _ (by omega)
  refine obe_call (by rfl) ?_ ?_ ?_
  · clear k1_b4_0 g1_b4_0 k1_b4_1 g1_b4_1 k1_b4_2 g1_b4_2 k1_b4_3 g1_b4_3 k1_b5_0 g1_b5_0 k1_b5_1 g1_b5_1 k1_b5_2 g1_b5_2 k1_b5_3 g1_b5_3 k1_b6_0 g1_b6_0 k1_b6_1 g1_b6_1 k1_b6_2 g1_b6_2 k1_b6_3 g1_b6_3 B1 z1; intro f hf; have u14 : f 14 = (.agg #[.int .u8 r, .int .u8 g, .int .u8 b, .int .u8 a]) := (by rw [← hf]; rfl); clear hf; intro w' _; simp only [execOp, resolve, invoke, rhoF_tmp, rhoF_func, rhoF_const, u14, List.map_toArray, List.map_cons, List.map_nil]; go_simp
  · clear k1_b4_0 g1_b4_0 k1_b4_1 g1_b4_1 k1_b4_2 g1_b4_2 k1_b4_3 g1_b4_3 k1_b5_0 g1_b5_0 k1_b5_1 g1_b5_1 k1_b5_2 g1_b5_2 k1_b5_3 g1_b5_3 k1_b6_0 g1_b6_0 k1_b6_1 g1_b6_1 k1_b6_2 g1_b6_2 k1_b6_3 g1_b6_3 B1 z1; rintro w' ⟨h0, h1, h2, h3, h4, h5, h6, h7, h8, h9, h10, h11, h12, h13, h14, h15, h16, h17, h18, h19, h20, h21, h22, h23⟩; exact pclamp_any r g b a cr cg cb hr hg hb _
  refine obe_val (by rfl) ?_ ?_
  · clear k1_b4_0 g1_b4_0 k1_b4_1 g1_b4_1 k1_b4_2 g1_b4_2 k1_b4_3 g1_b4_3 k1_b5_0 g1_b5_0 k1_b5_1 g1_b5_1 k1_b5_2 g1_b5_2 k1_b5_3 g1_b5_3 k1_b6_0 g1_b6_0 k1_b6_1 g1_b6_1 k1_b6_2 g1_b6_2 k1_b6_3 g1_b6_3 B1 z1; intro f hf; have u5 : f 5 = (.pointer (some ⟨w.heap.size + 1, 0, none⟩)) := (by rw [← hf]; rfl); clear hf; rintro w' ⟨h0, h1, h2, h3, h4, h5, h6, h7, h8, h9, h10, h11, h12, h13, h14, h15, h16, h17, h18, h19, h20, h21, h22, h23⟩; go_simp; try exact IntWalk.i64_in _ (by omega)
  refine obe_call (by rfl) ?_ ?_ ?_
  · clear k1_b4_0 g1_b4_0 k1_b4_1 g1_b4_1 k1_b4_2 g1_b4_2 k1_b4_3 g1_b4_3 k1_b5_0 g1_b5_0 k1_b5_1 g1_b5_1 k1_b5_2 g1_b5_2 k1_b5_3 g1_b5_3 k1_b6_0 g1_b6_0 k1_b6_1 g1_b6_1 k1_b6_2 g1_b6_2 k1_b6_3 g1_b6_3 B1 z1; intro f hf; have u16 : f 16 = (.agg #[.int .u8 s, .int .u8 t, .int .u8 u, .int .u8 d]) := (by rw [← hf]; rfl); clear hf; intro w' _; simp only [execOp, resolve, invoke, rhoF_tmp, rhoF_func, rhoF_const, u16, List.map_toArray, List.map_cons, List.map_nil]; go_simp
  · clear k1_b4_0 g1_b4_0 k1_b4_1 g1_b4_1 k1_b4_2 g1_b4_2 k1_b4_3 g1_b4_3 k1_b5_0 g1_b5_0 k1_b5_1 g1_b5_1 k1_b5_2 g1_b5_2 k1_b5_3 g1_b5_3 k1_b6_0 g1_b6_0 k1_b6_1 g1_b6_1 k1_b6_2 g1_b6_2 k1_b6_3 g1_b6_3 B1 z1; rintro w' ⟨h0, h1, h2, h3, h4, h5, h6, h7, h8, h9, h10, h11, h12, h13, h14, h15, h16, h17, h18, h19, h20, h21, h22, h23⟩; exact pclamp_any s t u d cs ct cu hs ht hu _
  refine obe_nil ?_
  rintro w2 ⟨h0, h1, h2, h3, h4, h5, h6, h7, h8, h9, h10, h11, h12, h13, h14, h15, h16, h17, h18, h19, h20, h21, h22, h23⟩ hb2 hF
  (try simp only [List.nil_append, List.append_nil, List.cons_append] at hF)
  simp only [puts, putD, Act.put, List.setIfInBounds_toArray, List.set_cons_zero, List.set_cons_succ]
  clear hF
  have k2_b4_0 := bcs hb2 k1_b4_0
  have g2_b4_0 := bfs hb2 k1_b4_0 g1_b4_0
  have k2_b4_1 := bcs hb2 k1_b4_1
  have g2_b4_1 := bfs hb2 k1_b4_1 g1_b4_1
  have k2_b4_2 := bcs hb2 k1_b4_2
  have g2_b4_2 := bfs hb2 k1_b4_2 g1_b4_2
  have k2_b4_3 := bcs hb2 k1_b4_3
  have g2_b4_3 := bfs hb2 k1_b4_3 g1_b4_3
  have k2_b5_0 := bcs hb2 k1_b5_0
  have g2_b5_0 := bfs hb2 k1_b5_0 g1_b5_0
  have k2_b5_1 := bcs hb2 k1_b5_1
  have g2_b5_1 := bfs hb2 k1_b5_1 g1_b5_1
  have k2_b5_2 := bcs hb2 k1_b5_2
  have g2_b5_2 := bfs hb2 k1_b5_2 g1_b5_2
  have k2_b5_3 := bcs hb2 k1_b5_3
  have g2_b5_3 := bfs hb2 k1_b5_3 g1_b5_3
  have k2_b6_0 := bcs hb2 k1_b6_0
  have g2_b6_0 := bfs hb2 k1_b6_0 g1_b6_0
  have k2_b6_1 := bcs hb2 k1_b6_1
  have g2_b6_1 := bfs hb2 k1_b6_1 g1_b6_1
  have k2_b6_2 := bcs hb2 k1_b6_2
  have g2_b6_2 := bfs hb2 k1_b6_2 g1_b6_2
  have k2_b6_3 := bcs hb2 k1_b6_3
  have g2_b6_3 := bfs hb2 k1_b6_3 g1_b6_3
  clear h0 h1 h2 h3 h4 h5 h6 h7 h8 h9 h10 h11 h12 h13 h14 h15 h16 h17 h18 h19 h20 h21 h22 h23
  have B2 := bel_step B1 hb2
  have z2 := Nat.le_trans z1 hb2.size
  clear hb2
  (try clear B1)
  (try clear z1)
  (try clear k1_b4_0)
  (try clear g1_b4_0)
  (try clear k1_b4_1)
  (try clear g1_b4_1)
  (try clear k1_b4_2)
  (try clear g1_b4_2)
  (try clear k1_b4_3)
  (try clear g1_b4_3)
  (try clear k1_b5_0)
  (try clear g1_b5_0)
  (try clear k1_b5_1)
  (try clear g1_b5_1)
  (try clear k1_b5_2)
  (try clear g1_b5_2)
  (try clear k1_b5_3)
  (try clear g1_b5_3)
  (try clear k1_b6_0)
  (try clear g1_b6_0)
  (try clear k1_b6_1)
  (try clear g1_b6_1)
  (try clear k1_b6_2)
  (try clear g1_b6_2)
  (try clear k1_b6_3)
  (try clear g1_b6_3)
  (try clear q1_b4)
  (try clear x1_b4)
  (try clear y1_b4)
  (try clear q1_b5)
  (try clear x1_b5)
  (try clear y1_b5)
  (try clear q1_b6)
  (try clear x1_b6)
  (try clear y1_b6)
  have q2_b4 : w.heap.size < w2.heap.size := qlt k2_b4_0
  have x2_b4 : ¬ w.heap.size = w2.heap.size := qne k2_b4_0
  have y2_b4 : ¬ w2.heap.size = w.heap.size := fun h => qne k2_b4_0 h.symm
  have q2_b5 : w.heap.size + 1 < w2.heap.size := qlt k2_b5_0
  have x2_b5 : ¬ w.heap.size + 1 = w2.heap.size := qne k2_b5_0
  have y2_b5 : ¬ w2.heap.size = w.heap.size + 1 := fun h => qne k2_b5_0 h.symm
  have q2_b6 : w.heap.size + 1 + 1 < w2.heap.size := qlt k2_b6_0
  have x2_b6 : ¬ w.heap.size + 1 + 1 = w2.heap.size := qne k2_b6_0
  have y2_b6 : ¬ w2.heap.size = w.heap.size + 1 + 1 := fun h => qne k2_b6_0 h.symm
  go_wp2_with (first | (go_at_call 35; (with_reducible refine (ci _).mono ?_); rintro e w9 ⟨rfl, rfl⟩) | (go_at_call 36; (with_reducible refine (cb_ _).mono ?_); rintro e w3 ⟨rfl, hb3⟩; have k3_b4_0 : w3.cell? ⟨w.heap.size, 0, none⟩ = some (.int .u8 cr) := bcs hb3 (by go_simp); have g3_b4_0 : w3.frozen? ⟨w.heap.size, 0, none⟩ = false := bfs hb3 (v := .int .u8 cr) (by go_simp) (by go_simp); have k3_b4_1 : w3.cell? ⟨w.heap.size, 1, none⟩ = some (.int .u8 cg) := bcs hb3 (by go_simp); have g3_b4_1 : w3.frozen? ⟨w.heap.size, 1, none⟩ = false := bfs hb3 (v := .int .u8 cg) (by go_simp) (by go_simp); have k3_b4_2 : w3.cell? ⟨w.heap.size, 2, none⟩ = some (.int .u8 cb) := bcs hb3 (by go_simp); have g3_b4_2 : w3.frozen? ⟨w.heap.size, 2, none⟩ = false := bfs hb3 (v := .int .u8 cb) (by go_simp) (by go_simp); have k3_b4_3 : w3.cell? ⟨w.heap.size, 3, none⟩ = some (.int .u8 a) := bcs hb3 (by go_simp); have g3_b4_3 : w3.frozen? ⟨w.heap.size, 3, none⟩ = false := bfs hb3 (v := .int .u8 a) (by go_simp) (by go_simp); have k3_b5_0 : w3.cell? ⟨w.heap.size + 1, 0, none⟩ = some (.int .u8 cs) := bcs hb3 (by go_simp); have g3_b5_0 : w3.frozen? ⟨w.heap.size + 1, 0, none⟩ = false := bfs hb3 (v := .int .u8 cs) (by go_simp) (by go_simp); have k3_b5_1 : w3.cell? ⟨w.heap.size + 1, 1, none⟩ = some (.int .u8 ct) := bcs hb3 (by go_simp); have g3_b5_1 : w3.frozen? ⟨w.heap.size + 1, 1, none⟩ = false := bfs hb3 (v := .int .u8 ct) (by go_simp) (by go_simp); have k3_b5_2 : w3.cell? ⟨w.heap.size + 1, 2, none⟩ = some (.int .u8 cu) := bcs hb3 (by go_simp); have g3_b5_2 : w3.frozen? ⟨w.heap.size + 1, 2, none⟩ = false := bfs hb3 (v := .int .u8 cu) (by go_simp) (by go_simp); have k3_b5_3 : w3.cell? ⟨w.heap.size + 1, 3, none⟩ = some (.int .u8 d) := bcs hb3 (by go_simp); have g3_b5_3 : w3.frozen? ⟨w.heap.size + 1, 3, none⟩ = false := bfs hb3 (v := .int .u8 d) (by go_simp) (by go_simp); have k3_b6_0 : w3.cell? ⟨w.heap.size + 1 + 1, 0, none⟩ = some (.int .u8 0) := bcs hb3 (by go_simp); have g3_b6_0 : w3.frozen? ⟨w.heap.size + 1 + 1, 0, none⟩ = false := bfs hb3 (v := .int .u8 0) (by go_simp) (by go_simp); have k3_b6_1 : w3.cell? ⟨w.heap.size + 1 + 1, 1, none⟩ = some (.int .u8 0) := bcs hb3 (by go_simp); have g3_b6_1 : w3.frozen? ⟨w.heap.size + 1 + 1, 1, none⟩ = false := bfs hb3 (v := .int .u8 0) (by go_simp) (by go_simp); have k3_b6_2 : w3.cell? ⟨w.heap.size + 1 + 1, 2, none⟩ = some (.int .u8 0) := bcs hb3 (by go_simp); have g3_b6_2 : w3.frozen? ⟨w.heap.size + 1 + 1, 2, none⟩ = false := bfs hb3 (v := .int .u8 0) (by go_simp) (by go_simp); have k3_b6_3 : w3.cell? ⟨w.heap.size + 1 + 1, 3, none⟩ = some (.int .u8 0) := bcs hb3 (by go_simp); have g3_b6_3 : w3.frozen? ⟨w.heap.size + 1 + 1, 3, none⟩ = false := bfs hb3 (v := .int .u8 0) (by go_simp) (by go_simp); have k3_g7_0 : w3.cell? ⟨w2.heap.size, 0, none⟩ = some (.int .u8 0) := bcs hb3 (by go_simp); have g3_g7_0 : w3.frozen? ⟨w2.heap.size, 0, none⟩ = false := bfs hb3 (v := .int .u8 0) (by go_simp) (by go_simp); have k3_g7_1 : w3.cell? ⟨w2.heap.size, 1, none⟩ = some (.int .u8 0) := bcs hb3 (by go_simp); have g3_g7_1 : w3.frozen? ⟨w2.heap.size, 1, none⟩ = false := bfs hb3 (v := .int .u8 0) (by go_simp) (by go_simp); have k3_g7_2 : w3.cell? ⟨w2.heap.size, 2, none⟩ = some (.int .u8 0) := bcs hb3 (by go_simp); have g3_g7_2 : w3.frozen? ⟨w2.heap.size, 2, none⟩ = false := bfs hb3 (v := .int .u8 0) (by go_simp) (by go_simp); have q3_b4 : w.heap.size < w3.heap.size := qlt k3_b4_0; have x3_b4 : ¬ w.heap.size = w3.heap.size := qne k3_b4_0; have y3_b4 : ¬ w3.heap.size = w.heap.size := fun h => qne k3_b4_0 h.symm; have q3_b5 : w.heap.size + 1 < w3.heap.size := qlt k3_b5_0; have x3_b5 : ¬ w.heap.size + 1 = w3.heap.size := qne k3_b5_0; have y3_b5 : ¬ w3.heap.size = w.heap.size + 1 := fun h => qne k3_b5_0 h.symm; have q3_b6 : w.heap.size + 1 + 1 < w3.heap.size := qlt k3_b6_0; have x3_b6 : ¬ w.heap.size + 1 + 1 = w3.heap.size := qne k3_b6_0; have y3_b6 : ¬ w3.heap.size = w.heap.size + 1 + 1 := fun h => qne k3_b6_0 h.symm; have q3_g7 : w2.heap.size < w3.heap.size := qlt k3_g7_0; have x3_g7 : ¬ w2.heap.size = w3.heap.size := qne k3_g7_0; have y3_g7 : ¬ w3.heap.size = w2.heap.size := fun h => qne k3_g7_0 h.symm; have B3 : Below w.heap.size w w3 := bel_step (by repeat (first | with_reducible exact Below.refl _ _ | with_reducible exact B2 | with_reducible apply below_drewN | with_reducible apply Below.drew | (with_reducible refine Below.alloc ?_ (by first | (simp; done) | (simp; omega) | omega) _) | (with_reducible refine Below.setCell ?_ (by first | (simp; done) | (simp; omega) | omega) _))) hb3; have z3 : w.heap.size + 1 + 1 + 1 ≤ w3.heap.size := Nat.le_trans (by first | with_reducible assumption | (simp; done) | (simp; omega)) hb3.size; clear hb3; (try clear k2_b4_0); (try clear g2_b4_0); (try clear k2_b4_1); (try clear g2_b4_1); (try clear k2_b4_2); (try clear g2_b4_2); (try clear k2_b4_3); (try clear g2_b4_3); (try clear k2_b5_0); (try clear g2_b5_0); (try clear k2_b5_1); (try clear g2_b5_1); (try clear k2_b5_2); (try clear g2_b5_2); (try clear k2_b5_3); (try clear g2_b5_3); (try clear k2_b6_0); (try clear g2_b6_0); (try clear k2_b6_1); (try clear g2_b6_1); (try clear k2_b6_2); (try clear g2_b6_2); (try clear k2_b6_3); (try clear g2_b6_3); (try clear k2_g7_0); (try clear g2_g7_0); (try clear k2_g7_1); (try clear g2_g7_1); (try clear k2_g7_2); (try clear g2_g7_2); (try clear B2); (try clear z2)))
  refine wp_region_env (fun w' => w'.cell? ⟨w.heap.size, 0, none⟩ = some (.int .u8 cr) ∧ w'.frozen? ⟨w.heap.size, 0, none⟩ = false ∧ w'.cell? ⟨w.heap.size, 1, none⟩ = some (.int .u8 cg) ∧ w'.frozen? ⟨w.heap.size, 1, none⟩ = false ∧ w'.cell? ⟨w.heap.size, 2, none⟩ = some (.int .u8 cb) ∧ w'.frozen? ⟨w.heap.size, 2, none⟩ = false ∧ w'.cell? ⟨w.heap.size, 3, none⟩ = some (.int .u8 a) ∧ w'.frozen? ⟨w.heap.size, 3, none⟩ = false ∧ w'.cell? ⟨w.heap.size + 1, 0, none⟩ = some (.int .u8 cs) ∧ w'.frozen? ⟨w.heap.size + 1, 0, none⟩ = false ∧ w'.cell? ⟨w.heap.size + 1, 1, none⟩ = some (.int .u8 ct) ∧ w'.frozen? ⟨w.heap.size + 1, 1, none⟩ = false ∧ w'.cell? ⟨w.heap.size + 1, 2, none⟩ = some (.int .u8 cu) ∧ w'.frozen? ⟨w.heap.size + 1, 2, none⟩ = false ∧ w'.cell? ⟨w.heap.size + 1, 3, none⟩ = some (.int .u8 d) ∧ w'.frozen? ⟨w.heap.size + 1, 3, none⟩ = false ∧ w'.cell? ⟨w.heap.size + 1 + 1, 0, none⟩ = some (.int .u8 0) ∧ w'.frozen? ⟨w.heap.size + 1 + 1, 0, none⟩ = false ∧ w'.cell? ⟨w.heap.size + 1 + 1, 1, none⟩ = some (.int .u8 0) ∧ w'.frozen? ⟨w.heap.size + 1 + 1, 1, none⟩ = false ∧ w'.cell? ⟨w.heap.size + 1 + 1, 2, none⟩ = some (.int .u8 0) ∧ w'.frozen? ⟨w.heap.size + 1 + 1, 2, none⟩ = false ∧ w'.cell? ⟨w.heap.size + 1 + 1, 3, none⟩ = some (.int .u8 0) ∧ w'.frozen? ⟨w.heap.size + 1 + 1, 3, none⟩ = false ∧ w'.cell? ⟨w2.heap.size, 0, none⟩ = some (.int .u8 x0) ∧ w'.frozen? ⟨w2.heap.size, 0, none⟩ = false ∧ w'.cell? ⟨w2.heap.size, 1, none⟩ = some (.int .u8 x1) ∧ w'.frozen? ⟨w2.heap.size, 1, none⟩ = false ∧ w'.cell? ⟨w2.heap.size, 2, none⟩ = some (.int .u8 x2) ∧ w'.frozen? ⟨w2.heap.size, 2, none⟩ = false) (fun W => W.cell? ⟨w.heap.size, 0, none⟩ = some (.int .u8 cr) ∧ W.frozen? ⟨w.heap.size, 0, none⟩ = false ∧ W.cell? ⟨w.heap.size, 1, none⟩ = some (.int .u8 cg) ∧ W.frozen? ⟨w.heap.size, 1, none⟩ = false ∧ W.cell? ⟨w.heap.size, 2, none⟩ = some (.int .u8 cb) ∧ W.frozen? ⟨w.heap.size, 2, none⟩ = false ∧ W.cell? ⟨w.heap.size, 3, none⟩ = some (.int .u8 a) ∧ W.frozen? ⟨w.heap.size, 3, none⟩ = false ∧ W.cell? ⟨w.heap.size + 1, 0, none⟩ = some (.int .u8 cs) ∧ W.frozen? ⟨w.heap.size + 1, 0, none⟩ = false ∧ W.cell? ⟨w.heap.size + 1, 1, none⟩ = some (.int .u8 ct) ∧ W.frozen? ⟨w.heap.size + 1, 1, none⟩ = false ∧ W.cell? ⟨w.heap.size + 1, 2, none⟩ = some (.int .u8 cu) ∧ W.frozen? ⟨w.heap.size + 1, 2, none⟩ = false ∧ W.cell? ⟨w.heap.size + 1, 3, none⟩ = some (.int .u8 d) ∧ W.frozen? ⟨w.heap.size + 1, 3, none⟩ = false ∧ W.cell? ⟨w.heap.size + 1 + 1, 0, none⟩ = some (.int .u8 0) ∧ W.frozen? ⟨w.heap.size + 1 + 1, 0, none⟩ = false ∧ W.cell? ⟨w.heap.size + 1 + 1, 1, none⟩ = some (.int .u8 0) ∧ W.frozen? ⟨w.heap.size + 1 + 1, 1, none⟩ = false ∧ W.cell? ⟨w.heap.size + 1 + 1, 2, none⟩ = some (.int .u8 0) ∧ W.frozen? ⟨w.heap.size + 1 + 1, 2, none⟩ = false ∧ W.cell? ⟨w.heap.size + 1 + 1, 3, none⟩ = some (.int .u8 0) ∧ W.frozen? ⟨w.heap.size + 1 + 1, 3, none⟩ = false ∧ W.cell? ⟨w2.heap.size, 0, none⟩ = some (.int .u8 x0) ∧ W.frozen? ⟨w2.heap.size, 0, none⟩ = false ∧ W.cell? ⟨w2.heap.size, 1, none⟩ = some (.int .u8 x1) ∧ W.frozen? ⟨w2.heap.size, 1, none⟩ = false ∧ W.cell? ⟨w2.heap.size, 2, none⟩ = some (.int .u8 x2) ∧ W.frozen? ⟨w2.heap.size, 2, none⟩ = false ∧ Below w.heap.size w W ∧ w.heap.size + 1 + 1 + 1 ≤ W.heap.size) 8 51 [.val (.pointer (some ⟨w.heap.size, 3, none⟩)), .val (.int .u8 a), .val (.int .i64 a), .val (.pointer (some ⟨w.heap.size + 1, 3, none⟩)), .val (.int .u8 d), .val (.int .i64 d), .val (.int .i64 a), .val (.int .i64 d)] (by kernel_rfl) (by kernel_rfl) rfl (by kernel_rfl) (by rintro w1 w2 ⟨h0, h1, h2, h3, h4, h5, h6, h7, h8, h9, h10, h11, h12, h13, h14, h15, h16, h17, h18, h19, h20, h21, h22, h23, h24, h25, h26, h27, h28, h29⟩ hb; exact ⟨bcs hb h0, bfs hb h0 h1, bcs hb h2, bfs hb h2 h3, bcs hb h4, bfs hb h4 h5, bcs hb h6, bfs hb h6 h7, bcs hb h8, bfs hb h8 h9, bcs hb h10, bfs hb h10 h11, bcs hb h12, bfs hb h12 h13, bcs hb h14, bfs hb h14 h15, bcs hb h16, bfs hb h16 h17, bcs hb h18, bfs hb h18 h19, bcs hb h20, bfs hb h20 h21, bcs hb h22, bfs hb h22 h23, bcs hb h24, bfs hb h24 h25, bcs hb h26, bfs hb h26 h27, bcs hb h28, bfs hb h28 h29⟩) ⟨by first | with_reducible assumption | go_simp, by first | with_reducible assumption | go_simp, by first | with_reducible assumption | go_simp, by first | with_reducible assumption | go_simp, by first | with_reducible assumption | go_simp, by first | with_reducible assumption | go_simp, by first | with_reducible assumption | go_simp, by first | with_reducible assumption | go_simp, by first | with_reducible assumption | go_simp, by first | with_reducible assumption | go_simp, by first | with_reducible assumption | go_simp, by first | with_reducible assumption | go_simp, by first | with_reducible assumption | go_simp, by first | with_reducible assumption | go_simp, by first | with_reducible assumption | go_simp, by first | with_reducible assumption | go_simp, by first | with_reducible assumption | go_simp, by first | with_reducible assumption | go_simp, by first | with_reducible assumption | go_simp, by first | with_reducible assumption | go_simp, by first | with_reducible assumption | go_simp, by first | with_reducible assumption | go_simp, by first | with_reducible assumption | go_simp, by first | with_reducible assumption | go_simp, by first | with_reducible assumption | go_simp, by first | with_reducible assumption | go_simp, by first | with_reducible assumption | go_simp, by first | with_reducible assumption | go_simp, by first | with_reducible assumption | go_simp, by first | with_reducible assumption | go_simp, by repeat (first | with_reducible exact Below.refl _ _ | with_reducible exact B3 | with_reducible apply below_drewN | with_reducible apply Below.drew | (with_reducible refine Below.alloc ?_ (by first | (simp; done) | (simp; omega) | omega) _) | (with_reducible refine Below.setCell ?_ (by first | (simp; done) | (simp; omega) | omega) _)), by first | with_reducible assumption | (simp; done) | (simp; omega)⟩ ?_ ?_
  · rintro W ⟨k4_b4_0, g4_b4_0, k4_b4_1, g4_b4_1, k4_b4_2, g4_b4_2, k4_b4_3, g4_b4_3, k4_b5_0, g4_b5_0, k4_b5_1, g4_b5_1, k4_b5_2, g4_b5_2, k4_b5_3, g4_b5_3, k4_b6_0, g4_b6_0, k4_b6_1, g4_b6_1, k4_b6_2, g4_b6_2, k4_b6_3, g4_b6_3, k4_g7_0, g4_g7_0, k4_g7_1, g4_g7_1, k4_g7_2, g4_g7_2, B4, z4⟩; exact ⟨k4_b4_0, g4_b4_0, k4_b4_1, g4_b4_1, k4_b4_2, g4_b4_2, k4_b4_3, g4_b4_3, k4_b5_0, g4_b5_0, k4_b5_1, g4_b5_1, k4_b5_2, g4_b5_2, k4_b5_3, g4_b5_3, k4_b6_0, g4_b6_0, k4_b6_1, g4_b6_1, k4_b6_2, g4_b6_2, k4_b6_3, g4_b6_3, k4_g7_0, g4_g7_0, k4_g7_1, g4_g7_1, k4_g7_2, g4_g7_2⟩
  (try clear B3)
  (try clear z3)
  (try clear k3_b4_0)
  (try clear g3_b4_0)
  (try clear k3_b4_1)
  (try clear g3_b4_1)
  (try clear k3_b4_2)
  (try clear g3_b4_2)
  (try clear k3_b4_3)
  (try clear g3_b4_3)
  (try clear k3_b5_0)
  (try clear g3_b5_0)
  (try clear k3_b5_1)
  (try clear g3_b5_1)
  (try clear k3_b5_2)
  (try clear g3_b5_2)
  (try clear k3_b5_3)
  (try clear g3_b5_3)
  (try clear k3_b6_0)
  (try clear g3_b6_0)
  (try clear k3_b6_1)
  (try clear g3_b6_1)
  (try clear k3_b6_2)
  (try clear g3_b6_2)
  (try clear k3_b6_3)
  (try clear g3_b6_3)
  (try clear k3_g7_0)
  (try clear g3_g7_0)
  (try clear k3_g7_1)
  (try clear g3_g7_1)
  (try clear k3_g7_2)
  (try clear g3_g7_2)
  (try clear q3_b4)
  (try clear x3_b4)
  (try clear y3_b4)
  (try clear q3_b5)
  (try clear x3_b5)
  (try clear y3_b5)
  (try clear q3_b6)
  (try clear x3_b6)
  (try clear y3_b6)
  (try clear q3_g7)
  (try clear x3_g7)
  (try clear y3_g7)
  rintro w4 ⟨k4_b4_0, g4_b4_0, k4_b4_1, g4_b4_1, k4_b4_2, g4_b4_2, k4_b4_3, g4_b4_3, k4_b5_0, g4_b5_0, k4_b5_1, g4_b5_1, k4_b5_2, g4_b5_2, k4_b5_3, g4_b5_3, k4_b6_0, g4_b6_0, k4_b6_1, g4_b6_1, k4_b6_2, g4_b6_2, k4_b6_3, g4_b6_3, k4_g7_0, g4_g7_0, k4_g7_1, g4_g7_1, k4_g7_2, g4_g7_2, B4, z4⟩ gg
  simp only [List.take_succ_cons, List.take_zero, List.drop_succ_cons, List.drop_zero, List.cons_append, List.nil_append, List.append_nil]
  refine obe_val (by rfl) ?_ ?_
  · clear k4_b4_0 g4_b4_0 k4_b4_1 g4_b4_1 k4_b4_2 g4_b4_2 k4_b4_3 g4_b4_3 k4_b5_0 g4_b5_0 k4_b5_1 g4_b5_1 k4_b5_2 g4_b5_2 k4_b5_3 g4_b5_3 k4_b6_0 g4_b6_0 k4_b6_1 g4_b6_1 k4_b6_2 g4_b6_2 k4_b6_3 g4_b6_3 k4_g7_0 g4_g7_0 k4_g7_1 g4_g7_1 k4_g7_2 g4_g7_2 B4 z4; intro f hf; have u4 : f 4 = (.pointer (some ⟨w.heap.size, 0, none⟩)) := (by rw [← hf]; rfl); clear hf; rintro w' ⟨h0, h1, h2, h3, h4, h5, h6, h7, h8, h9, h10, h11, h12, h13, h14, h15, h16, h17, h18, h19, h20, h21, h22, h23, h24, h25, h26, h27, h28, h29⟩; go_simp; try exact IntWalk.i64_in _ (by omega)
  refine obe_val (by rfl) ?_ ?_
  · clear k4_b4_0 g4_b4_0 k4_b4_1 g4_b4_1 k4_b4_2 g4_b4_2 k4_b4_3 g4_b4_3 k4_b5_0 g4_b5_0 k4_b5_1 g4_b5_1 k4_b5_2 g4_b5_2 k4_b5_3 g4_b5_3 k4_b6_0 g4_b6_0 k4_b6_1 g4_b6_1 k4_b6_2 g4_b6_2 k4_b6_3 g4_b6_3 k4_g7_0 g4_g7_0 k4_g7_1 g4_g7_1 k4_g7_2 g4_g7_2 B4 z4; intro f hf; have u28 : f 28 = (.pointer (some ⟨w.heap.size, 3, none⟩)) := (by rw [← hf]; rfl); clear hf; rintro w' ⟨h0, h1, h2, h3, h4, h5, h6, h7, h8, h9, h10, h11, h12, h13, h14, h15, h16, h17, h18, h19, h20, h21, h22, h23, h24, h25, h26, h27, h28, h29⟩; go_simp; try exact IntWalk.i64_in _ (by omega)
  refine obe_val (by rfl) ?_ ?_
  · clear k4_b4_0 g4_b4_0 k4_b4_1 g4_b4_1 k4_b4_2 g4_b4_2 k4_b4_3 g4_b4_3 k4_b5_0 g4_b5_0 k4_b5_1 g4_b5_1 k4_b5_2 g4_b5_2 k4_b5_3 g4_b5_3 k4_b6_0 g4_b6_0 k4_b6_1 g4_b6_1 k4_b6_2 g4_b6_2 k4_b6_3 g4_b6_3 k4_g7_0 g4_g7_0 k4_g7_1 g4_g7_1 k4_g7_2 g4_g7_2 B4 z4; intro f hf; have u29 : f 29 = (.int .u8 a) := (by rw [← hf]; rfl); clear hf; rintro w' ⟨h0, h1, h2, h3, h4, h5, h6, h7, h8, h9, h10, h11, h12, h13, h14, h15, h16, h17, h18, h19, h20, h21, h22, h23, h24, h25, h26, h27, h28, h29⟩; go_simp; try exact IntWalk.i64_in _ (by omega)
  refine obe_val (by rfl) ?_ ?_
  · clear k4_b4_0 g4_b4_0 k4_b4_1 g4_b4_1 k4_b4_2 g4_b4_2 k4_b4_3 g4_b4_3 k4_b5_0 g4_b5_0 k4_b5_1 g4_b5_1 k4_b5_2 g4_b5_2 k4_b5_3 g4_b5_3 k4_b6_0 g4_b6_0 k4_b6_1 g4_b6_1 k4_b6_2 g4_b6_2 k4_b6_3 g4_b6_3 k4_g7_0 g4_g7_0 k4_g7_1 g4_g7_1 k4_g7_2 g4_g7_2 B4 z4; intro f hf; have u5 : f 5 = (.pointer (some ⟨w.heap.size + 1, 0, none⟩)) := (by rw [← hf]; rfl); clear hf; rintro w' ⟨h0, h1, h2, h3, h4, h5, h6, h7, h8, h9, h10, h11, h12, h13, h14, h15, h16, h17, h18, h19, h20, h21, h22, h23, h24, h25, h26, h27, h28, h29⟩; go_simp; try exact IntWalk.i64_in _ (by omega)
  refine obe_val (by rfl) ?_ ?_
  · clear k4_b4_0 g4_b4_0 k4_b4_1 g4_b4_1 k4_b4_2 g4_b4_2 k4_b4_3 g4_b4_3 k4_b5_0 g4_b5_0 k4_b5_1 g4_b5_1 k4_b5_2 g4_b5_2 k4_b5_3 g4_b5_3 k4_b6_0 g4_b6_0 k4_b6_1 g4_b6_1 k4_b6_2 g4_b6_2 k4_b6_3 g4_b6_3 k4_g7_0 g4_g7_0 k4_g7_1 g4_g7_1 k4_g7_2 g4_g7_2 B4 z4; intro f hf; have u31 : f 31 = (.pointer (some ⟨w.heap.size + 1, 3, none⟩)) := (by rw [← hf]; rfl); clear hf; rintro w' ⟨h0, h1, h2, h3, h4, h5, h6, h7, h8, h9, h10, h11, h12, h13, h14, h15, h16, h17, h18, h19, h20, h21, h22, h23, h24, h25, h26, h27, h28, h29⟩; go_simp; try exact IntWalk.i64_in _ (by omega)
  refine obe_val (by rfl) ?_ ?_
  · clear k4_b4_0 g4_b4_0 k4_b4_1 g4_b4_1 k4_b4_2 g4_b4_2 k4_b4_3 g4_b4_3 k4_b5_0 g4_b5_0 k4_b5_1 g4_b5_1 k4_b5_2 g4_b5_2 k4_b5_3 g4_b5_3 k4_b6_0 g4_b6_0 k4_b6_1 g4_b6_1 k4_b6_2 g4_b6_2 k4_b6_3 g4_b6_3 k4_g7_0 g4_g7_0 k4_g7_1 g4_g7_1 k4_g7_2 g4_g7_2 B4 z4; intro f hf; have u32 : f 32 = (.int .u8 d) := (by rw [← hf]; rfl); clear hf; rintro w' ⟨h0, h1, h2, h3, h4, h5, h6, h7, h8, h9, h10, h11, h12, h13, h14, h15, h16, h17, h18, h19, h20, h21, h22, h23, h24, h25, h26, h27, h28, h29⟩; go_simp; try exact IntWalk.i64_in _ (by omega)
  refine obe_val (by rfl) ?_ ?_
  · clear k4_b4_0 g4_b4_0 k4_b4_1 g4_b4_1 k4_b4_2 g4_b4_2 k4_b4_3 g4_b4_3 k4_b5_0 g4_b5_0 k4_b5_1 g4_b5_1 k4_b5_2 g4_b5_2 k4_b5_3 g4_b5_3 k4_b6_0 g4_b6_0 k4_b6_1 g4_b6_1 k4_b6_2 g4_b6_2 k4_b6_3 g4_b6_3 k4_g7_0 g4_g7_0 k4_g7_1 g4_g7_1 k4_g7_2 g4_g7_2 B4 z4; intro f hf; have u30 : f 30 = (.int .i64 a) := (by rw [← hf]; rfl); clear hf; rintro w' ⟨h0, h1, h2, h3, h4, h5, h6, h7, h8, h9, h10, h11, h12, h13, h14, h15, h16, h17, h18, h19, h20, h21, h22, h23, h24, h25, h26, h27, h28, h29⟩; go_simp; try exact IntWalk.i64_in _ (by omega)
  refine obe_val (by rfl) ?_ ?_
  · clear k4_b4_0 g4_b4_0 k4_b4_1 g4_b4_1 k4_b4_2 g4_b4_2 k4_b4_3 g4_b4_3 k4_b5_0 g4_b5_0 k4_b5_1 g4_b5_1 k4_b5_2 g4_b5_2 k4_b5_3 g4_b5_3 k4_b6_0 g4_b6_0 k4_b6_1 g4_b6_1 k4_b6_2 g4_b6_2 k4_b6_3 g4_b6_3 k4_g7_0 g4_g7_0 k4_g7_1 g4_g7_1 k4_g7_2 g4_g7_2 B4 z4; intro f hf; have u33 : f 33 = (.int .i64 d) := (by rw [← hf]; rfl); clear hf; rintro w' ⟨h0, h1, h2, h3, h4, h5, h6, h7, h8, h9, h10, h11, h12, h13, h14, h15, h16, h17, h18, h19, h20, h21, h22, h23, h24, h25, h26, h27, h28, h29⟩; go_simp; try exact IntWalk.i64_in _ (by omega)
  refine obe_nil ?_
  rintro w5 ⟨h0, h1, h2, h3, h4, h5, h6, h7, h8, h9, h10, h11, h12, h13, h14, h15, h16, h17, h18, h19, h20, h21, h22, h23, h24, h25, h26, h27, h28, h29⟩ hb5 hF
  (try simp only [List.nil_append, List.append_nil, List.cons_append] at hF)
  simp only [puts, putD, Act.put, List.setIfInBounds_toArray, List.set_cons_zero, List.set_cons_succ]
  clear hF
  have k5_b4_0 := bcs hb5 k4_b4_0
  have g5_b4_0 := bfs hb5 k4_b4_0 g4_b4_0
  have k5_b4_1 := bcs hb5 k4_b4_1
  have g5_b4_1 := bfs hb5 k4_b4_1 g4_b4_1
  have k5_b4_2 := bcs hb5 k4_b4_2
  have g5_b4_2 := bfs hb5 k4_b4_2 g4_b4_2
  have k5_b4_3 := bcs hb5 k4_b4_3
  have g5_b4_3 := bfs hb5 k4_b4_3 g4_b4_3
  have k5_b5_0 := bcs hb5 k4_b5_0
  have g5_b5_0 := bfs hb5 k4_b5_0 g4_b5_0
  have k5_b5_1 := bcs hb5 k4_b5_1
  have g5_b5_1 := bfs hb5 k4_b5_1 g4_b5_1
  have k5_b5_2 := bcs hb5 k4_b5_2
  have g5_b5_2 := bfs hb5 k4_b5_2 g4_b5_2
  have k5_b5_3 := bcs hb5 k4_b5_3
  have g5_b5_3 := bfs hb5 k4_b5_3 g4_b5_3
  have k5_b6_0 := bcs hb5 k4_b6_0
  have g5_b6_0 := bfs hb5 k4_b6_0 g4_b6_0
  have k5_b6_1 := bcs hb5 k4_b6_1
  have g5_b6_1 := bfs hb5 k4_b6_1 g4_b6_1
  have k5_b6_2 := bcs hb5 k4_b6_2
  have g5_b6_2 := bfs hb5 k4_b6_2 g4_b6_2
  have k5_b6_3 := bcs hb5 k4_b6_3
  have g5_b6_3 := bfs hb5 k4_b6_3 g4_b6_3
  have k5_g7_0 := bcs hb5 k4_g7_0
  have g5_g7_0 := bfs hb5 k4_g7_0 g4_g7_0
  have k5_g7_1 := bcs hb5 k4_g7_1
  have g5_g7_1 := bfs hb5 k4_g7_1 g4_g7_1
  have k5_g7_2 := bcs hb5 k4_g7_2
  have g5_g7_2 := bfs hb5 k4_g7_2 g4_g7_2
  clear h0 h1 h2 h3 h4 h5 h6 h7 h8 h9 h10 h11 h12 h13 h14 h15 h16 h17 h18 h19 h20 h21 h22 h23 h24 h25 h26 h27 h28 h29
  have B5 := bel_step B4 hb5
  have z5 := Nat.le_trans z4 hb5.size
  clear hb5
  (try clear B4)
  (try clear z4)
  (try clear k4_b4_0)
  (try clear g4_b4_0)
  (try clear k4_b4_1)
  (try clear g4_b4_1)
  (try clear k4_b4_2)
  (try clear g4_b4_2)
  (try clear k4_b4_3)
  (try clear g4_b4_3)
  (try clear k4_b5_0)
  (try clear g4_b5_0)
  (try clear k4_b5_1)
  (try clear g4_b5_1)
  (try clear k4_b5_2)
  (try clear g4_b5_2)
  (try clear k4_b5_3)
  (try clear g4_b5_3)
  (try clear k4_b6_0)
  (try clear g4_b6_0)
  (try clear k4_b6_1)
  (try clear g4_b6_1)
  (try clear k4_b6_2)
  (try clear g4_b6_2)
  (try clear k4_b6_3)
  (try clear g4_b6_3)
  (try clear k4_g7_0)
  (try clear g4_g7_0)
  (try clear k4_g7_1)
  (try clear g4_g7_1)
  (try clear k4_g7_2)
  (try clear g4_g7_2)
  (try clear q4_b4)
  (try clear x4_b4)
  (try clear y4_b4)
  (try clear q4_b5)
  (try clear x4_b5)
  (try clear y4_b5)
  (try clear q4_b6)
  (try clear x4_b6)
  (try clear y4_b6)
  (try clear q4_g7)
  (try clear x4_g7)
  (try clear y4_g7)
  have q5_b4 : w.heap.size < w5.heap.size := qlt k5_b4_0
  have x5_b4 : ¬ w.heap.size = w5.heap.size := qne k5_b4_0
  have y5_b4 : ¬ w5.heap.size = w.heap.size := fun h => qne k5_b4_0 h.symm
  have q5_b5 : w.heap.size + 1 < w5.heap.size := qlt k5_b5_0
  have x5_b5 : ¬ w.heap.size + 1 = w5.heap.size := qne k5_b5_0
  have y5_b5 : ¬ w5.heap.size = w.heap.size + 1 := fun h => qne k5_b5_0 h.symm
  have q5_b6 : w.heap.size + 1 + 1 < w5.heap.size := qlt k5_b6_0
  have x5_b6 : ¬ w.heap.size + 1 + 1 = w5.heap.size := qne k5_b6_0
  have y5_b6 : ¬ w5.heap.size = w.heap.size + 1 + 1 := fun h => qne k5_b6_0 h.symm
  have q5_g7 : w2.heap.size < w5.heap.size := qlt k5_g7_0
  have x5_g7 : ¬ w2.heap.size = w5.heap.size := qne k5_g7_0
  have y5_g7 : ¬ w5.heap.size = w2.heap.size := fun h => qne k5_g7_0 h.symm
  unfold wpList
  go_wp2
  refine wp_region_env (fun w' => w'.cell? ⟨w.heap.size, 0, none⟩ = some (.int .u8 cr) ∧ w'.frozen? ⟨w.heap.size, 0, none⟩ = false ∧ w'.cell? ⟨w.heap.size, 1, none⟩ = some (.int .u8 cg) ∧ w'.frozen? ⟨w.heap.size, 1, none⟩ = false ∧ w'.cell? ⟨w.heap.size, 2, none⟩ = some (.int .u8 cb) ∧ w'.frozen? ⟨w.heap.size, 2, none⟩ = false ∧ w'.cell? ⟨w.heap.size, 3, none⟩ = some (.int .u8 a) ∧ w'.frozen? ⟨w.heap.size, 3, none⟩ = false ∧ w'.cell? ⟨w.heap.size + 1, 0, none⟩ = some (.int .u8 cs) ∧ w'.frozen? ⟨w.heap.size + 1, 0, none⟩ = false ∧ w'.cell? ⟨w.heap.size + 1, 1, none⟩ = some (.int .u8 ct) ∧ w'.frozen? ⟨w.heap.size + 1, 1, none⟩ = false ∧ w'.cell? ⟨w.heap.size + 1, 2, none⟩ = some (.int .u8 cu) ∧ w'.frozen? ⟨w.heap.size + 1, 2, none⟩ = false ∧ w'.cell? ⟨w.heap.size + 1, 3, none⟩ = some (.int .u8 d) ∧ w'.frozen? ⟨w.heap.size + 1, 3, none⟩ = false ∧ w'.cell? ⟨w.heap.size + 1 + 1, 0, none⟩ = some (.int .u8 0) ∧ w'.frozen? ⟨w.heap.size + 1 + 1, 0, none⟩ = false ∧ w'.cell? ⟨w.heap.size + 1 + 1, 1, none⟩ = some (.int .u8 0) ∧ w'.frozen? ⟨w.heap.size + 1 + 1, 1, none⟩ = false ∧ w'.cell? ⟨w.heap.size + 1 + 1, 2, none⟩ = some (.int .u8 0) ∧ w'.frozen? ⟨w.heap.size + 1 + 1, 2, none⟩ = false ∧ w'.cell? ⟨w.heap.size + 1 + 1, 3, none⟩ = some (.int .u8 0) ∧ w'.frozen? ⟨w.heap.size + 1 + 1, 3, none⟩ = false ∧ w'.cell? ⟨w2.heap.size, 0, none⟩ = some (.int .u8 x0) ∧ w'.frozen? ⟨w2.heap.size, 0, none⟩ = false ∧ w'.cell? ⟨w2.heap.size, 1, none⟩ = some (.int .u8 x1) ∧ w'.frozen? ⟨w2.heap.size, 1, none⟩ = false ∧ w'.cell? ⟨w2.heap.size, 2, none⟩ = some (.int .u8 x2) ∧ w'.frozen? ⟨w2.heap.size, 2, none⟩ = false) (fun W => W.cell? ⟨w.heap.size, 0, none⟩ = some (.int .u8 cr) ∧ W.frozen? ⟨w.heap.size, 0, none⟩ = false ∧ W.cell? ⟨w.heap.size, 1, none⟩ = some (.int .u8 cg) ∧ W.frozen? ⟨w.heap.size, 1, none⟩ = false ∧ W.cell? ⟨w.heap.size, 2, none⟩ = some (.int .u8 cb) ∧ W.frozen? ⟨w.heap.size, 2, none⟩ = false ∧ W.cell? ⟨w.heap.size, 3, none⟩ = some (.int .u8 a) ∧ W.frozen? ⟨w.heap.size, 3, none⟩ = false ∧ W.cell? ⟨w.heap.size + 1, 0, none⟩ = some (.int .u8 cs) ∧ W.frozen? ⟨w.heap.size + 1, 0, none⟩ = false ∧ W.cell? ⟨w.heap.size + 1, 1, none⟩ = some (.int .u8 ct) ∧ W.frozen? ⟨w.heap.size + 1, 1, none⟩ = false ∧ W.cell? ⟨w.heap.size + 1, 2, none⟩ = some (.int .u8 cu) ∧ W.frozen? ⟨w.heap.size + 1, 2, none⟩ = false ∧ W.cell? ⟨w.heap.size + 1, 3, none⟩ = some (.int .u8 d) ∧ W.frozen? ⟨w.heap.size + 1, 3, none⟩ = false ∧ W.cell? ⟨w.heap.size + 1 + 1, 0, none⟩ = some (.int .u8 0) ∧ W.frozen? ⟨w.heap.size + 1 + 1, 0, none⟩ = false ∧ W.cell? ⟨w.heap.size + 1 + 1, 1, none⟩ = some (.int .u8 0) ∧ W.frozen? ⟨w.heap.size + 1 + 1, 1, none⟩ = false ∧ W.cell? ⟨w.heap.size + 1 + 1, 2, none⟩ = some (.int .u8 0) ∧ W.frozen? ⟨w.heap.size + 1 + 1, 2, none⟩ = false ∧ W.cell? ⟨w.heap.size + 1 + 1, 3, none⟩ = some (.int .u8 0) ∧ W.frozen? ⟨w.heap.size + 1 + 1, 3, none⟩ = false ∧ W.cell? ⟨w2.heap.size, 0, none⟩ = some (.int .u8 x0) ∧ W.frozen? ⟨w2.heap.size, 0, none⟩ = false ∧ W.cell? ⟨w2.heap.size, 1, none⟩ = some (.int .u8 x1) ∧ W.frozen? ⟨w2.heap.size, 1, none⟩ = false ∧ W.cell? ⟨w2.heap.size, 2, none⟩ = some (.int .u8 x2) ∧ W.frozen? ⟨w2.heap.size, 2, none⟩ = false ∧ Below w.heap.size w W ∧ w.heap.size + 1 + 1 + 1 ≤ W.heap.size) 17 51 [.val (.pointer (some ⟨w2.heap.size, 0, none⟩)), .val (.int .u8 x0), .val (.pointer (some ⟨w2.heap.size, 1, none⟩)), .val (.int .u8 x1), .val (.pointer (some ⟨w2.heap.size, 2, none⟩)), .val (.int .u8 x2), .val (.int .i64 a), .val (.int .i64 a), .val (.int .i64 d), .val (.int .i64 d), .call 38 #[.int .i64 a, .int .i64 a, .int .i64 d, .int .i64 d] (.int .i64 y), .val (.int .i64 a), .val (.int .i64 d), .val (.int .i64 (a * d)), .val (.int .i64 (y + a * d)), .call 27 #[.int .i64 (y + a * d)] (.int .u8 z), .val (.agg #[.int .u8 x0, .int .u8 x1, .int .u8 x2, .int .u8 z])] (by kernel_rfl) (by kernel_rfl) rfl (by kernel_rfl) (by rintro w1 w2 ⟨h0, h1, h2, h3, h4, h5, h6, h7, h8, h9, h10, h11, h12, h13, h14, h15, h16, h17, h18, h19, h20, h21, h22, h23, h24, h25, h26, h27, h28, h29⟩ hb; exact ⟨bcs hb h0, bfs hb h0 h1, bcs hb h2, bfs hb h2 h3, bcs hb h4, bfs hb h4 h5, bcs hb h6, bfs hb h6 h7, bcs hb h8, bfs hb h8 h9, bcs hb h10, bfs hb h10 h11, bcs hb h12, bfs hb h12 h13, bcs hb h14, bfs hb h14 h15, bcs hb h16, bfs hb h16 h17, bcs hb h18, bfs hb h18 h19, bcs hb h20, bfs hb h20 h21, bcs hb h22, bfs hb h22 h23, bcs hb h24, bfs hb h24 h25, bcs hb h26, bfs hb h26 h27, bcs hb h28, bfs hb h28 h29⟩) ⟨by first | with_reducible assumption | go_simp, by first | with_reducible assumption | go_simp, by first | with_reducible assumption | go_simp, by first | with_reducible assumption | go_simp, by first | with_reducible assumption | go_simp, by first | with_reducible assumption | go_simp, by first | with_reducible assumption | go_simp, by first | with_reducible assumption | go_simp, by first | with_reducible assumption | go_simp, by first | with_reducible assumption | go_simp, by first | with_reducible assumption | go_simp, by first | with_reducible assumption | go_simp, by first | with_reducible assumption | go_simp, by first | with_reducible assumption | go_simp, by first | with_reducible assumption | go_simp, by first | with_reducible assumption | go_simp, by first | with_reducible assumption | go_simp, by first | with_reducible assumption | go_simp, by first | with_reducible assumption | go_simp, by first | with_reducible assumption | go_simp, by first | with_reducible assumption | go_simp, by first | with_reducible assumption | go_simp, by first | with_reducible assumption | go_simp, by first | with_reducible assumption | go_simp, by first | with_reducible assumption | go_simp, by first | with_reducible assumption | go_simp, by first | with_reducible assumption | go_simp, by first | with_reducible assumption | go_simp, by first | with_reducible assumption | go_simp, by first | with_reducible assumption | go_simp, by repeat (first | with_reducible exact Below.refl _ _ | with_reducible exact B5 | with_reducible apply below_drewN | with_reducible apply Below.drew | (with_reducible refine Below.alloc ?_ (by first | (simp; done) | (simp; omega) | omega) _) | (with_reducible refine Below.setCell ?_ (by first | (simp; done) | (simp; omega) | omega) _)), by first | with_reducible assumption | (simp; done) | (simp; omega)⟩ ?_ ?_
  · rintro W ⟨k6_b4_0, g6_b4_0, k6_b4_1, g6_b4_1, k6_b4_2, g6_b4_2, k6_b4_3, g6_b4_3, k6_b5_0, g6_b5_0, k6_b5_1, g6_b5_1, k6_b5_2, g6_b5_2, k6_b5_3, g6_b5_3, k6_b6_0, g6_b6_0, k6_b6_1, g6_b6_1, k6_b6_2, g6_b6_2, k6_b6_3, g6_b6_3, k6_g7_0, g6_g7_0, k6_g7_1, g6_g7_1, k6_g7_2, g6_g7_2, B6, z6⟩; exact ⟨k6_b4_0, g6_b4_0, k6_b4_1, g6_b4_1, k6_b4_2, g6_b4_2, k6_b4_3, g6_b4_3, k6_b5_0, g6_b5_0, k6_b5_1, g6_b5_1, k6_b5_2, g6_b5_2, k6_b5_3, g6_b5_3, k6_b6_0, g6_b6_0, k6_b6_1, g6_b6_1, k6_b6_2, g6_b6_2, k6_b6_3, g6_b6_3, k6_g7_0, g6_g7_0, k6_g7_1, g6_g7_1, k6_g7_2, g6_g7_2⟩
  (try clear B5)
  (try clear z5)
  (try clear k5_b4_0)
  (try clear g5_b4_0)
  (try clear k5_b4_1)
  (try clear g5_b4_1)
  (try clear k5_b4_2)
  (try clear g5_b4_2)
  (try clear k5_b4_3)
  (try clear g5_b4_3)
  (try clear k5_b5_0)
  (try clear g5_b5_0)
  (try clear k5_b5_1)
  (try clear g5_b5_1)
  (try clear k5_b5_2)
  (try clear g5_b5_2)
  (try clear k5_b5_3)
  (try clear g5_b5_3)
  (try clear k5_b6_0)
  (try clear g5_b6_0)
  (try clear k5_b6_1)
  (try clear g5_b6_1)
  (try clear k5_b6_2)
  (try clear g5_b6_2)
  (try clear k5_b6_3)
  (try clear g5_b6_3)
  (try clear k5_g7_0)
  (try clear g5_g7_0)
  (try clear k5_g7_1)
  (try clear g5_g7_1)
  (try clear k5_g7_2)
  (try clear g5_g7_2)
  (try clear q5_b4)
  (try clear x5_b4)
  (try clear y5_b4)
  (try clear q5_b5)
  (try clear x5_b5)
  (try clear y5_b5)
  (try clear q5_b6)
  (try clear x5_b6)
  (try clear y5_b6)
  (try clear q5_g7)
  (try clear x5_g7)
  (try clear y5_g7)
  rintro w6 ⟨k6_b4_0, g6_b4_0, k6_b4_1, g6_b4_1, k6_b4_2, g6_b4_2, k6_b4_3, g6_b4_3, k6_b5_0, g6_b5_0, k6_b5_1, g6_b5_1, k6_b5_2, g6_b5_2, k6_b5_3, g6_b5_3, k6_b6_0, g6_b6_0, k6_b6_1, g6_b6_1, k6_b6_2, g6_b6_2, k6_b6_3, g6_b6_3, k6_g7_0, g6_g7_0, k6_g7_1, g6_g7_1, k6_g7_2, g6_g7_2, B6, z6⟩ gg
  simp only [List.take_succ_cons, List.take_zero, List.drop_succ_cons, List.drop_zero, List.cons_append, List.nil_append, List.append_nil]
  refine obe_val (by rfl) ?_ ?_
  · clear k6_b4_0 g6_b4_0 k6_b4_1 g6_b4_1 k6_b4_2 g6_b4_2 k6_b4_3 g6_b4_3 k6_b5_0 g6_b5_0 k6_b5_1 g6_b5_1 k6_b5_2 g6_b5_2 k6_b5_3 g6_b5_3 k6_b6_0 g6_b6_0 k6_b6_1 g6_b6_1 k6_b6_2 g6_b6_2 k6_b6_3 g6_b6_3 k6_g7_0 g6_g7_0 k6_g7_1 g6_g7_1 k6_g7_2 g6_g7_2 B6 z6; intro f hf; have u7 : f 7 = (.pointer (some ⟨w2.heap.size, 0, none⟩)) := (by rw [← hf]; rfl); clear hf; rintro w' ⟨h0, h1, h2, h3, h4, h5, h6, h7, h8, h9, h10, h11, h12, h13, h14, h15, h16, h17, h18, h19, h20, h21, h22, h23, h24, h25, h26, h27, h28, h29⟩; go_simp; try exact IntWalk.i64_in _ (by omega)
  refine obe_val (by rfl) ?_ ?_
  · clear k6_b4_0 g6_b4_0 k6_b4_1 g6_b4_1 k6_b4_2 g6_b4_2 k6_b4_3 g6_b4_3 k6_b5_0 g6_b5_0 k6_b5_1 g6_b5_1 k6_b5_2 g6_b5_2 k6_b5_3 g6_b5_3 k6_b6_0 g6_b6_0 k6_b6_1 g6_b6_1 k6_b6_2 g6_b6_2 k6_b6_3 g6_b6_3 k6_g7_0 g6_g7_0 k6_g7_1 g6_g7_1 k6_g7_2 g6_g7_2 B6 z6; intro f hf; have u34 : f 34 = (.pointer (some ⟨w2.heap.size, 0, none⟩)) := (by rw [← hf]; rfl); clear hf; rintro w' ⟨h0, h1, h2, h3, h4, h5, h6, h7, h8, h9, h10, h11, h12, h13, h14, h15, h16, h17, h18, h19, h20, h21, h22, h23, h24, h25, h26, h27, h28, h29⟩; go_simp; try exact IntWalk.i64_in _ (by omega)
  refine obe_val (by rfl) ?_ ?_
  · clear k6_b4_0 g6_b4_0 k6_b4_1 g6_b4_1 k6_b4_2 g6_b4_2 k6_b4_3 g6_b4_3 k6_b5_0 g6_b5_0 k6_b5_1 g6_b5_1 k6_b5_2 g6_b5_2 k6_b5_3 g6_b5_3 k6_b6_0 g6_b6_0 k6_b6_1 g6_b6_1 k6_b6_2 g6_b6_2 k6_b6_3 g6_b6_3 k6_g7_0 g6_g7_0 k6_g7_1 g6_g7_1 k6_g7_2 g6_g7_2 B6 z6; intro f hf; have u7 : f 7 = (.pointer (some ⟨w2.heap.size, 0, none⟩)) := (by rw [← hf]; rfl); clear hf; rintro w' ⟨h0, h1, h2, h3, h4, h5, h6, h7, h8, h9, h10, h11, h12, h13, h14, h15, h16, h17, h18, h19, h20, h21, h22, h23, h24, h25, h26, h27, h28, h29⟩; go_simp; try exact IntWalk.i64_in _ (by omega)
  refine obe_val (by rfl) ?_ ?_
  · clear k6_b4_0 g6_b4_0 k6_b4_1 g6_b4_1 k6_b4_2 g6_b4_2 k6_b4_3 g6_b4_3 k6_b5_0 g6_b5_0 k6_b5_1 g6_b5_1 k6_b5_2 g6_b5_2 k6_b5_3 g6_b5_3 k6_b6_0 g6_b6_0 k6_b6_1 g6_b6_1 k6_b6_2 g6_b6_2 k6_b6_3 g6_b6_3 k6_g7_0 g6_g7_0 k6_g7_1 g6_g7_1 k6_g7_2 g6_g7_2 B6 z6; intro f hf; have u36 : f 36 = (.pointer (some ⟨w2.heap.size, 1, none⟩)) := (by rw [← hf]; rfl); clear hf; rintro w' ⟨h0, h1, h2, h3, h4, h5, h6, h7, h8, h9, h10, h11, h12, h13, h14, h15, h16, h17, h18, h19, h20, h21, h22, h23, h24, h25, h26, h27, h28, h29⟩; go_simp; try exact IntWalk.i64_in _ (by omega)
  refine obe_val (by rfl) ?_ ?_
  · clear k6_b4_0 g6_b4_0 k6_b4_1 g6_b4_1 k6_b4_2 g6_b4_2 k6_b4_3 g6_b4_3 k6_b5_0 g6_b5_0 k6_b5_1 g6_b5_1 k6_b5_2 g6_b5_2 k6_b5_3 g6_b5_3 k6_b6_0 g6_b6_0 k6_b6_1 g6_b6_1 k6_b6_2 g6_b6_2 k6_b6_3 g6_b6_3 k6_g7_0 g6_g7_0 k6_g7_1 g6_g7_1 k6_g7_2 g6_g7_2 B6 z6; intro f hf; have u7 : f 7 = (.pointer (some ⟨w2.heap.size, 0, none⟩)) := (by rw [← hf]; rfl); clear hf; rintro w' ⟨h0, h1, h2, h3, h4, h5, h6, h7, h8, h9, h10, h11, h12, h13, h14, h15, h16, h17, h18, h19, h20, h21, h22, h23, h24, h25, h26, h27, h28, h29⟩; go_simp; try exact IntWalk.i64_in _ (by omega)
  refine obe_val (by rfl) ?_ ?_
  · clear k6_b4_0 g6_b4_0 k6_b4_1 g6_b4_1 k6_b4_2 g6_b4_2 k6_b4_3 g6_b4_3 k6_b5_0 g6_b5_0 k6_b5_1 g6_b5_1 k6_b5_2 g6_b5_2 k6_b5_3 g6_b5_3 k6_b6_0 g6_b6_0 k6_b6_1 g6_b6_1 k6_b6_2 g6_b6_2 k6_b6_3 g6_b6_3 k6_g7_0 g6_g7_0 k6_g7_1 g6_g7_1 k6_g7_2 g6_g7_2 B6 z6; intro f hf; have u38 : f 38 = (.pointer (some ⟨w2.heap.size, 2, none⟩)) := (by rw [← hf]; rfl); clear hf; rintro w' ⟨h0, h1, h2, h3, h4, h5, h6, h7, h8, h9, h10, h11, h12, h13, h14, h15, h16, h17, h18, h19, h20, h21, h22, h23, h24, h25, h26, h27, h28, h29⟩; go_simp; try exact IntWalk.i64_in _ (by omega)
  refine obe_val (by rfl) ?_ ?_
  · clear k6_b4_0 g6_b4_0 k6_b4_1 g6_b4_1 k6_b4_2 g6_b4_2 k6_b4_3 g6_b4_3 k6_b5_0 g6_b5_0 k6_b5_1 g6_b5_1 k6_b5_2 g6_b5_2 k6_b5_3 g6_b5_3 k6_b6_0 g6_b6_0 k6_b6_1 g6_b6_1 k6_b6_2 g6_b6_2 k6_b6_3 g6_b6_3 k6_g7_0 g6_g7_0 k6_g7_1 g6_g7_1 k6_g7_2 g6_g7_2 B6 z6; intro f hf; have u8 : f 8 = (.int .i64 a) := (by rw [← hf]; rfl); clear hf; rintro w' ⟨h0, h1, h2, h3, h4, h5, h6, h7, h8, h9, h10, h11, h12, h13, h14, h15, h16, h17, h18, h19, h20, h21, h22, h23, h24, h25, h26, h27, h28, h29⟩; go_simp; try exact IntWalk.i64_in _ (by omega)
  refine obe_val (by rfl) ?_ ?_
  · clear k6_b4_0 g6_b4_0 k6_b4_1 g6_b4_1 k6_b4_2 g6_b4_2 k6_b4_3 g6_b4_3 k6_b5_0 g6_b5_0 k6_b5_1 g6_b5_1 k6_b5_2 g6_b5_2 k6_b5_3 g6_b5_3 k6_b6_0 g6_b6_0 k6_b6_1 g6_b6_1 k6_b6_2 g6_b6_2 k6_b6_3 g6_b6_3 k6_g7_0 g6_g7_0 k6_g7_1 g6_g7_1 k6_g7_2 g6_g7_2 B6 z6; intro f hf; have u8 : f 8 = (.int .i64 a) := (by rw [← hf]; rfl); clear hf; rintro w' ⟨h0, h1, h2, h3, h4, h5, h6, h7, h8, h9, h10, h11, h12, h13, h14, h15, h16, h17, h18, h19, h20, h21, h22, h23, h24, h25, h26, h27, h28, h29⟩; go_simp; try exact IntWalk.i64_in _ (by omega)
  refine obe_val (by rfl) ?_ ?_
  · clear k6_b4_0 g6_b4_0 k6_b4_1 g6_b4_1 k6_b4_2 g6_b4_2 k6_b4_3 g6_b4_3 k6_b5_0 g6_b5_0 k6_b5_1 g6_b5_1 k6_b5_2 g6_b5_2 k6_b5_3 g6_b5_3 k6_b6_0 g6_b6_0 k6_b6_1 g6_b6_1 k6_b6_2 g6_b6_2 k6_b6_3 g6_b6_3 k6_g7_0 g6_g7_0 k6_g7_1 g6_g7_1 k6_g7_2 g6_g7_2 B6 z6; intro f hf; have u9 : f 9 = (.int .i64 d) := (by rw [← hf]; rfl); clear hf; rintro w' ⟨h0, h1, h2, h3, h4, h5, h6, h7, h8, h9, h10, h11, h12, h13, h14, h15, h16, h17, h18, h19, h20, h21, h22, h23, h24, h25, h26, h27, h28, h29⟩; go_simp; try exact IntWalk.i64_in _ (by omega)
  refine obe_val (by rfl) ?_ ?_
  · clear k6_b4_0 g6_b4_0 k6_b4_1 g6_b4_1 k6_b4_2 g6_b4_2 k6_b4_3 g6_b4_3 k6_b5_0 g6_b5_0 k6_b5_1 g6_b5_1 k6_b5_2 g6_b5_2 k6_b5_3 g6_b5_3 k6_b6_0 g6_b6_0 k6_b6_1 g6_b6_1 k6_b6_2 g6_b6_2 k6_b6_3 g6_b6_3 k6_g7_0 g6_g7_0 k6_g7_1 g6_g7_1 k6_g7_2 g6_g7_2 B6 z6; intro f hf; have u9 : f 9 = (.int .i64 d) := (by rw [← hf]; rfl); clear hf; rintro w' ⟨h0, h1, h2, h3, h4, h5, h6, h7, h8, h9, h10, h11, h12, h13, h14, h15, h16, h17, h18, h19, h20, h21, h22, h23, h24, h25, h26, h27, h28, h29⟩; go_simp; try exact IntWalk.i64_in _ (by omega)
  refine obe_call (by rfl) ?_ ?_ ?_
  · clear k6_b4_0 g6_b4_0 k6_b4_1 g6_b4_1 k6_b4_2 g6_b4_2 k6_b4_3 g6_b4_3 k6_b5_0 g6_b5_0 k6_b5_1 g6_b5_1 k6_b5_2 g6_b5_2 k6_b5_3 g6_b5_3 k6_b6_0 g6_b6_0 k6_b6_1 g6_b6_1 k6_b6_2 g6_b6_2 k6_b6_3 g6_b6_3 k6_g7_0 g6_g7_0 k6_g7_1 g6_g7_1 k6_g7_2 g6_g7_2 B6 z6; intro f hf; have u40 : f 40 = (.int .i64 a) := (by rw [← hf]; rfl); have u41 : f 41 = (.int .i64 a) := (by rw [← hf]; rfl); have u42 : f 42 = (.int .i64 d) := (by rw [← hf]; rfl); have u43 : f 43 = (.int .i64 d) := (by rw [← hf]; rfl); clear hf; intro w' _; simp only [execOp, resolve, invoke, rhoF_tmp, rhoF_func, rhoF_const, u40, u41, u42, u43, List.map_toArray, List.map_cons, List.map_nil]; go_simp
  · clear k6_b4_0 g6_b4_0 k6_b4_1 g6_b4_1 k6_b4_2 g6_b4_2 k6_b4_3 g6_b4_3 k6_b5_0 g6_b5_0 k6_b5_1 g6_b5_1 k6_b5_2 g6_b5_2 k6_b5_3 g6_b5_3 k6_b6_0 g6_b6_0 k6_b6_1 g6_b6_1 k6_b6_2 g6_b6_2 k6_b6_3 g6_b6_3 k6_g7_0 g6_g7_0 k6_g7_1 g6_g7_1 k6_g7_2 g6_g7_2 B6 z6; rintro w' ⟨h0, h1, h2, h3, h4, h5, h6, h7, h8, h9, h10, h11, h12, h13, h14, h15, h16, h17, h18, h19, h20, h21, h22, h23, h24, h25, h26, h27, h28, h29⟩; exact (cu_ _).mono (by rintro e w2 ⟨rfl, rfl⟩; exact ⟨rfl, Below.refl _ _⟩)
  refine obe_val (by rfl) ?_ ?_
  · clear k6_b4_0 g6_b4_0 k6_b4_1 g6_b4_1 k6_b4_2 g6_b4_2 k6_b4_3 g6_b4_3 k6_b5_0 g6_b5_0 k6_b5_1 g6_b5_1 k6_b5_2 g6_b5_2 k6_b5_3 g6_b5_3 k6_b6_0 g6_b6_0 k6_b6_1 g6_b6_1 k6_b6_2 g6_b6_2 k6_b6_3 g6_b6_3 k6_g7_0 g6_g7_0 k6_g7_1 g6_g7_1 k6_g7_2 g6_g7_2 B6 z6; intro f hf; have u8 : f 8 = (.int .i64 a) := (by rw [← hf]; rfl); clear hf; rintro w' ⟨h0, h1, h2, h3, h4, h5, h6, h7, h8, h9, h10, h11, h12, h13, h14, h15, h16, h17, h18, h19, h20, h21, h22, h23, h24, h25, h26, h27, h28, h29⟩; go_simp; try exact IntWalk.i64_in _ (by omega)
  refine obe_val (by rfl) ?_ ?_
  · clear k6_b4_0 g6_b4_0 k6_b4_1 g6_b4_1 k6_b4_2 g6_b4_2 k6_b4_3 g6_b4_3 k6_b5_0 g6_b5_0 k6_b5_1 g6_b5_1 k6_b5_2 g6_b5_2 k6_b5_3 g6_b5_3 k6_b6_0 g6_b6_0 k6_b6_1 g6_b6_1 k6_b6_2 g6_b6_2 k6_b6_3 g6_b6_3 k6_g7_0 g6_g7_0 k6_g7_1 g6_g7_1 k6_g7_2 g6_g7_2 B6 z6; intro f hf; have u9 : f 9 = (.int .i64 d) := (by rw [← hf]; rfl); clear hf; rintro w' ⟨h0, h1, h2, h3, h4, h5, h6, h7, h8, h9, h10, h11, h12, h13, h14, h15, h16, h17, h18, h19, h20, h21, h22, h23, h24, h25, h26, h27, h28, h29⟩; go_simp; try exact IntWalk.i64_in _ (by omega)
  refine obe_val (by rfl) ?_ ?_
  · clear k6_b4_0 g6_b4_0 k6_b4_1 g6_b4_1 k6_b4_2 g6_b4_2 k6_b4_3 g6_b4_3 k6_b5_0 g6_b5_0 k6_b5_1 g6_b5_1 k6_b5_2 g6_b5_2 k6_b5_3 g6_b5_3 k6_b6_0 g6_b6_0 k6_b6_1 g6_b6_1 k6_b6_2 g6_b6_2 k6_b6_3 g6_b6_3 k6_g7_0 g6_g7_0 k6_g7_1 g6_g7_1 k6_g7_2 g6_g7_2 B6 z6; intro f hf; have u45 : f 45 = (.int .i64 a) := (by rw [← hf]; rfl); have u46 : f 46 = (.int .i64 d) := (by rw [← hf]; rfl); clear hf; rintro w' ⟨h0, h1, h2, h3, h4, h5, h6, h7, h8, h9, h10, h11, h12, h13, h14, h15, h16, h17, h18, h19, h20, h21, h22, h23, h24, h25, h26, h27, h28, h29⟩; go_simp; try exact IntWalk.i64_in _ (by omega)
  refine obe_val (by rfl) ?_ ?_
  · clear k6_b4_0 g6_b4_0 k6_b4_1 g6_b4_1 k6_b4_2 g6_b4_2 k6_b4_3 g6_b4_3 k6_b5_0 g6_b5_0 k6_b5_1 g6_b5_1 k6_b5_2 g6_b5_2 k6_b5_3 g6_b5_3 k6_b6_0 g6_b6_0 k6_b6_1 g6_b6_1 k6_b6_2 g6_b6_2 k6_b6_3 g6_b6_3 k6_g7_0 g6_g7_0 k6_g7_1 g6_g7_1 k6_g7_2 g6_g7_2 B6 z6; intro f hf; have u44 : f 44 = (.int .i64 y) := (by rw [← hf]; rfl); have u47 : f 47 = (.int .i64 (a * d)) := (by rw [← hf]; rfl); clear hf; rintro w' ⟨h0, h1, h2, h3, h4, h5, h6, h7, h8, h9, h10, h11, h12, h13, h14, h15, h16, h17, h18, h19, h20, h21, h22, h23, h24, h25, h26, h27, h28, h29⟩; go_simp; try exact IntWalk.i64_in _ (by omega)
  refine obe_call (by rfl) ?_ ?_ ?_
  · clear k6_b4_0 g6_b4_0 k6_b4_1 g6_b4_1 k6_b4_2 g6_b4_2 k6_b4_3 g6_b4_3 k6_b5_0 g6_b5_0 k6_b5_1 g6_b5_1 k6_b5_2 g6_b5_2 k6_b5_3 g6_b5_3 k6_b6_0 g6_b6_0 k6_b6_1 g6_b6_1 k6_b6_2 g6_b6_2 k6_b6_3 g6_b6_3 k6_g7_0 g6_g7_0 k6_g7_1 g6_g7_1 k6_g7_2 g6_g7_2 B6 z6; intro f hf; have u48 : f 48 = (.int .i64 (y + a * d)) := (by rw [← hf]; rfl); clear hf; intro w' _; simp only [execOp, resolve, invoke, rhoF_tmp, rhoF_func, rhoF_const, u48, List.map_toArray, List.map_cons, List.map_nil]; go_simp
  · clear k6_b4_0 g6_b4_0 k6_b4_1 g6_b4_1 k6_b4_2 g6_b4_2 k6_b4_3 g6_b4_3 k6_b5_0 g6_b5_0 k6_b5_1 g6_b5_1 k6_b5_2 g6_b5_2 k6_b5_3 g6_b5_3 k6_b6_0 g6_b6_0 k6_b6_1 g6_b6_1 k6_b6_2 g6_b6_2 k6_b6_3 g6_b6_3 k6_g7_0 g6_g7_0 k6_g7_1 g6_g7_1 k6_g7_2 g6_g7_2 B6 z6; rintro w' ⟨h0, h1, h2, h3, h4, h5, h6, h7, h8, h9, h10, h11, h12, h13, h14, h15, h16, h17, h18, h19, h20, h21, h22, h23, h24, h25, h26, h27, h28, h29⟩; exact (cd _).mono (by rintro e w2 ⟨rfl, rfl⟩; exact ⟨rfl, Below.refl _ _⟩)
  refine obe_val (by rfl) ?_ ?_
  · clear k6_b4_0 g6_b4_0 k6_b4_1 g6_b4_1 k6_b4_2 g6_b4_2 k6_b4_3 g6_b4_3 k6_b5_0 g6_b5_0 k6_b5_1 g6_b5_1 k6_b5_2 g6_b5_2 k6_b5_3 g6_b5_3 k6_b6_0 g6_b6_0 k6_b6_1 g6_b6_1 k6_b6_2 g6_b6_2 k6_b6_3 g6_b6_3 k6_g7_0 g6_g7_0 k6_g7_1 g6_g7_1 k6_g7_2 g6_g7_2 B6 z6; intro f hf; have u35 : f 35 = (.int .u8 x0) := (by rw [← hf]; rfl); have u37 : f 37 = (.int .u8 x1) := (by rw [← hf]; rfl); have u39 : f 39 = (.int .u8 x2) := (by rw [← hf]; rfl); have u49 : f 49 = (.int .u8 z) := (by rw [← hf]; rfl); clear hf; rintro w' ⟨h0, h1, h2, h3, h4, h5, h6, h7, h8, h9, h10, h11, h12, h13, h14, h15, h16, h17, h18, h19, h20, h21, h22, h23, h24, h25, h26, h27, h28, h29⟩; go_simp; try exact IntWalk.i64_in _ (by omega)
  refine obe_nil ?_
  rintro w7 ⟨h0, h1, h2, h3, h4, h5, h6, h7, h8, h9, h10, h11, h12, h13, h14, h15, h16, h17, h18, h19, h20, h21, h22, h23, h24, h25, h26, h27, h28, h29⟩ hb7 hF
  (try simp only [List.nil_append, List.append_nil, List.cons_append] at hF)
  simp only [puts, putD, Act.put, List.setIfInBounds_toArray, List.set_cons_zero, List.set_cons_succ]
  clear hF
  have k7_b4_0 := bcs hb7 k6_b4_0
  have g7_b4_0 := bfs hb7 k6_b4_0 g6_b4_0
  have k7_b4_1 := bcs hb7 k6_b4_1
  have g7_b4_1 := bfs hb7 k6_b4_1 g6_b4_1
  have k7_b4_2 := bcs hb7 k6_b4_2
  have g7_b4_2 := bfs hb7 k6_b4_2 g6_b4_2
  have k7_b4_3 := bcs hb7 k6_b4_3
  have g7_b4_3 := bfs hb7 k6_b4_3 g6_b4_3
  have k7_b5_0 := bcs hb7 k6_b5_0
  have g7_b5_0 := bfs hb7 k6_b5_0 g6_b5_0
  have k7_b5_1 := bcs hb7 k6_b5_1
  have g7_b5_1 := bfs hb7 k6_b5_1 g6_b5_1
  have k7_b5_2 := bcs hb7 k6_b5_2
  have g7_b5_2 := bfs hb7 k6_b5_2 g6_b5_2
  have k7_b5_3 := bcs hb7 k6_b5_3
  have g7_b5_3 := bfs hb7 k6_b5_3 g6_b5_3
  have k7_b6_0 := bcs hb7 k6_b6_0
  have g7_b6_0 := bfs hb7 k6_b6_0 g6_b6_0
  have k7_b6_1 := bcs hb7 k6_b6_1
  have g7_b6_1 := bfs hb7 k6_b6_1 g6_b6_1
  have k7_b6_2 := bcs hb7 k6_b6_2
  have g7_b6_2 := bfs hb7 k6_b6_2 g6_b6_2
  have k7_b6_3 := bcs hb7 k6_b6_3
  have g7_b6_3 := bfs hb7 k6_b6_3 g6_b6_3
  have k7_g7_0 := bcs hb7 k6_g7_0
  have g7_g7_0 := bfs hb7 k6_g7_0 g6_g7_0
  have k7_g7_1 := bcs hb7 k6_g7_1
  have g7_g7_1 := bfs hb7 k6_g7_1 g6_g7_1
  have k7_g7_2 := bcs hb7 k6_g7_2
  have g7_g7_2 := bfs hb7 k6_g7_2 g6_g7_2
  clear h0 h1 h2 h3 h4 h5 h6 h7 h8 h9 h10 h11 h12 h13 h14 h15 h16 h17 h18 h19 h20 h21 h22 h23 h24 h25 h26 h27 h28 h29
  have B7 := bel_step B6 hb7
  have z7 := Nat.le_trans z6 hb7.size
  clear hb7
  (try clear B6)
  (try clear z6)
  (try clear k6_b4_0)
  (try clear g6_b4_0)
  (try clear k6_b4_1)
  (try clear g6_b4_1)
  (try clear k6_b4_2)
  (try clear g6_b4_2)
  (try clear k6_b4_3)
  (try clear g6_b4_3)
  (try clear k6_b5_0)
  (try clear g6_b5_0)
  (try clear k6_b5_1)
  (try clear g6_b5_1)
  (try clear k6_b5_2)
  (try clear g6_b5_2)
  (try clear k6_b5_3)
  (try clear g6_b5_3)
  (try clear k6_b6_0)
  (try clear g6_b6_0)
  (try clear k6_b6_1)
  (try clear g6_b6_1)
  (try clear k6_b6_2)
  (try clear g6_b6_2)
  (try clear k6_b6_3)
  (try clear g6_b6_3)
  (try clear k6_g7_0)
  (try clear g6_g7_0)
  (try clear k6_g7_1)
  (try clear g6_g7_1)
  (try clear k6_g7_2)
  (try clear g6_g7_2)
  (try clear q6_b4)
  (try clear x6_b4)
  (try clear y6_b4)
  (try clear q6_b5)
  (try clear x6_b5)
  (try clear y6_b5)
  (try clear q6_b6)
  (try clear x6_b6)
  (try clear y6_b6)
  (try clear q6_g7)
  (try clear x6_g7)
  (try clear y6_g7)
  have q7_b4 : w.heap.size < w7.heap.size := qlt k7_b4_0
  have x7_b4 : ¬ w.heap.size = w7.heap.size := qne k7_b4_0
  have y7_b4 : ¬ w7.heap.size = w.heap.size := fun h => qne k7_b4_0 h.symm
  have q7_b5 : w.heap.size + 1 < w7.heap.size := qlt k7_b5_0
  have x7_b5 : ¬ w.heap.size + 1 = w7.heap.size := qne k7_b5_0
  have y7_b5 : ¬ w7.heap.size = w.heap.size + 1 := fun h => qne k7_b5_0 h.symm
  have q7_b6 : w.heap.size + 1 + 1 < w7.heap.size := qlt k7_b6_0
  have x7_b6 : ¬ w.heap.size + 1 + 1 = w7.heap.size := qne k7_b6_0
  have y7_b6 : ¬ w7.heap.size = w.heap.size + 1 + 1 := fun h => qne k7_b6_0 h.symm
  have q7_g7 : w2.heap.size < w7.heap.size := qlt k7_g7_0
  have x7_g7 : ¬ w2.heap.size = w7.heap.size := qne k7_g7_0
  have y7_g7 : ¬ w7.heap.size = w2.heap.size := fun h => qne k7_g7_0 h.symm
  go_wp2
  refine bodyPost_ret (v := .agg #[.int .u8 x0, .int .u8 x1, .int .u8 x2, .int .u8 z]) (by simp [results, Try.results29, go_sem, *]) rfl ⟨rfl, ?_⟩
  repeat (first | with_reducible exact Below.refl _ _ | with_reducible exact B7 | with_reducible apply below_drewN | with_reducible apply Below.drew | (with_reducible refine Below.alloc ?_ (by first | (simp; done) | (simp; omega) | omega) _) | (with_reducible refine Below.setCell ?_ (by first | (simp; done) | (simp; omega) | omega) _))
end Go.Proofs.Ytgaabdidddglhaa
