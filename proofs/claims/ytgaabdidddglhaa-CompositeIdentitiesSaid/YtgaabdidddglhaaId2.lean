import Derived.Test.YtgaabdidddglhaaM5
import Derived.Test.YtgaabdidddglhaaIdNum
import Derived.WalkKit
import Derived.WalkSpells
import Derived.WalkLawsBesides
import Derived.Lib.Hide
import Derived.Below
import Derived.Deep.QuietTactic
import Derived.BigQuiet
import Derived.Deep.RegionHeld3
import Derived.Deep.DrawnRows
import Derived.Deep.DeepFit
import Derived.IntWalk
namespace Go.Proofs.Ytgaabdidddglhaa
open Go.RowKit
set_option linter.unusedVariables false
set_option linter.unusedSimpArgs false
attribute [local go_sem ↓] Go.wp_at_zero Go.wp_at_succ
attribute [local go_sem] rhoF_tmp rhoF_const rhoF_global rhoF_func

set_option maxRecDepth 20000 in
set_option maxHeartbeats 16000000 in
theorem cid_ft (r g b s t u a : Int) (r0 : 0 ≤ r) (r1 : r ≤ 255) (g0 : 0 ≤ g) (g1 : g ≤ 255) (b0 : 0 ≤ b) (b1 : b ≤ 255) (s0 : 0 ≤ s) (s1 : s ≤ 255) (t0 : 0 ≤ t) (t1 : t ≤ 255) (u0 : 0 ≤ u) (u1 : u ≤ 255) (a0 : 0 ≤ a) (a1 : a ≤ 255) (ne1 : (a == 255) = false) (w : World) :
    Calls Try.prog 8 #[.agg #[.int .u8 r, .int .u8 g, .int .u8 b, .int .u8 a], .agg #[.int .u8 s, .int .u8 t, .int .u8 u, .int .u8 255]] w fun e w' => e = .returned (.bool true) ∧ Below w.heap.size w w' := by
  obtain ⟨cr, hr⟩ : ∃ x, min r a = x := ⟨_, rfl⟩
  obtain ⟨cg, hg⟩ : ∃ x, min g a = x := ⟨_, rfl⟩
  obtain ⟨cb, hb⟩ : ∃ x, min b a = x := ⟨_, rfl⟩
  obtain ⟨cs, hs⟩ : ∃ x, min s 255 = x := ⟨_, rfl⟩
  obtain ⟨ct, ht⟩ : ∃ x, min t 255 = x := ⟨_, rfl⟩
  obtain ⟨cu, hu⟩ : ∃ x, min u 255 = x := ⟨_, rfl⟩
  have k1 := fun w => compose_any 1 r g b a s t u 255 r0 r1 g0 g1 b0 b1 a0 a1 s0 s1 t0 t1 u0 u1 (by omega) (by omega) (by decide) w
  rw [hr, hg, hb, hs, ht, hu] at k1
  simp only [cp_clear] at k1
  have k2 := fun w => compose_any 2 r g b a s t u 255 r0 r1 g0 g1 b0 b1 a0 a1 s0 s1 t0 t1 u0 u1 (by omega) (by omega) (by decide) w
  rw [hr, hg, hb, hs, ht, hu] at k2
  rw [cp_source cr cs a 255 (by omega) (by omega), cp_source cg ct a 255 (by omega) (by omega), cp_source cb cu a 255 (by omega) (by omega), cp_source a 255 a 255 (by omega) (by omega)] at k2
  have k9 := fun w => compose_any 9 r g b a s t u 255 r0 r1 g0 g1 b0 b1 a0 a1 s0 s1 t0 t1 u0 u1 (by omega) (by omega) (by decide) w
  rw [hr, hg, hb, hs, ht, hu] at k9
  have k4b := fun w => compose_any 4 s t u 255 r g b a s0 s1 t0 t1 u0 u1 (by omega) (by omega) r0 r1 g0 g1 b0 b1 a0 a1 (by decide) w
  rw [hr, hg, hb, hs, ht, hu] at k4b
  simp only [cp_destin] at k9
  simp only [cp_in] at k4b
  obtain ⟨e0, he0⟩ : ∃ z, divN (cs * a) = z := ⟨_, rfl⟩
  obtain ⟨e1, he1⟩ : ∃ z, divN (ct * a) = z := ⟨_, rfl⟩
  obtain ⟨e2, he2⟩ : ∃ z, divN (cu * a) = z := ⟨_, rfl⟩
  obtain ⟨e3, he3⟩ : ∃ z, divN (255 * a) = z := ⟨_, rfl⟩
  rw [he0, he1, he2, he3] at k9
  rw [he0, he1, he2, he3] at k4b
  have k10 := fun w => compose_any 10 r g b a s t u 255 r0 r1 g0 g1 b0 b1 a0 a1 s0 s1 t0 t1 u0 u1 (by omega) (by omega) (by decide) w
  rw [hr, hg, hb, hs, ht, hu] at k10
  have k5b := fun w => compose_any 5 s t u 255 r g b a s0 s1 t0 t1 u0 u1 (by omega) (by omega) r0 r1 g0 g1 b0 b1 a0 a1 (by decide) w
  rw [hr, hg, hb, hs, ht, hu] at k5b
  simp only [cp_destout] at k10
  simp only [cp_out] at k5b
  obtain ⟨y0, hy0⟩ : ∃ z, divN (cs * (255 - a)) = z := ⟨_, rfl⟩
  obtain ⟨y1, hy1⟩ : ∃ z, divN (ct * (255 - a)) = z := ⟨_, rfl⟩
  obtain ⟨y2, hy2⟩ : ∃ z, divN (cu * (255 - a)) = z := ⟨_, rfl⟩
  obtain ⟨y3, hy3⟩ : ∃ z, divN (255 * (255 - a)) = z := ⟨_, rfl⟩
  rw [hy0, hy1, hy2, hy3] at k10
  rw [hy0, hy1, hy2, hy3] at k5b
  have k7 := fun w => compose_any 7 r g b a s t u 255 r0 r1 g0 g1 b0 b1 a0 a1 s0 s1 t0 t1 u0 u1 (by omega) (by omega) (by decide) w
  rw [hr, hg, hb, hs, ht, hu] at k7
  have k7b := fun w => compose_any 7 s t u 255 r g b a s0 s1 t0 t1 u0 u1 (by omega) (by omega) r0 r1 g0 g1 b0 b1 a0 a1 (by decide) w
  rw [hr, hg, hb, hs, ht, hu] at k7b
  simp only [cp_xor] at k7 k7b
  rw [xor_comm cr cs a 255, xor_comm cg ct a 255, xor_comm cb cu a 255, xor_comm a 255 a 255] at k7b
  obtain ⟨x0, hx0⟩ : ∃ z, divN (cr * (255 - 255) + cs * (255 - a)) = z := ⟨_, rfl⟩
  obtain ⟨x1, hx1⟩ : ∃ z, divN (cg * (255 - 255) + ct * (255 - a)) = z := ⟨_, rfl⟩
  obtain ⟨x2, hx2⟩ : ∃ z, divN (cb * (255 - 255) + cu * (255 - a)) = z := ⟨_, rfl⟩
  obtain ⟨x3, hx3⟩ : ∃ z, divN (a * (255 - 255) + 255 * (255 - a)) = z := ⟨_, rfl⟩
  rw [hx0, hx1, hx2, hx3] at k7
  rw [hx0, hx1, hx2, hx3] at k7b
  have k8 := fun w => compose_any 8 r g b a s t u 255 r0 r1 g0 g1 b0 b1 a0 a1 s0 s1 t0 t1 u0 u1 (by omega) (by omega) (by decide) w
  rw [hr, hg, hb, hs, ht, hu] at k8
  have k8b := fun w => compose_any 8 s t u 255 r g b a s0 s1 t0 t1 u0 u1 (by omega) (by omega) r0 r1 g0 g1 b0 b1 a0 a1 (by decide) w
  rw [hr, hg, hb, hs, ht, hu] at k8b
  simp only [cp_plus] at k8 k8b
  rw [plus_comm cr cs, plus_comm cg ct, plus_comm cb cu, plus_comm a 255] at k8b
  have hpA := plus_ge a 255 (by omega) (by omega) (by omega) (by omega)
  have hpR := plus_ge cr cs (by omega) (by omega) (by omega) (by omega)
  obtain ⟨p0, hp0⟩ : ∃ z, divN (cr * 255 + cs * 255) = z := ⟨_, rfl⟩
  obtain ⟨p1, hp1⟩ : ∃ z, divN (cg * 255 + ct * 255) = z := ⟨_, rfl⟩
  obtain ⟨p2, hp2⟩ : ∃ z, divN (cb * 255 + cu * 255) = z := ⟨_, rfl⟩
  obtain ⟨p3, hp3⟩ : ∃ z, divN (a * 255 + 255 * 255) = z := ⟨_, rfl⟩
  rw [hp0, hp1, hp2, hp3] at k8
  rw [hp0, hp1, hp2, hp3] at k8b
  rw [hp3] at hpA
  rw [hp0] at hpR
  have hio := in_out_bd a 255 (by omega) (by omega) (by omega) (by omega)
  have k4 := fun w => compose_any 4 r g b a s t u 255 r0 r1 g0 g1 b0 b1 a0 a1 s0 s1 t0 t1 u0 u1 (by omega) (by omega) (by decide) w
  rw [hr, hg, hb, hs, ht, hu] at k4
  have k5 := fun w => compose_any 5 r g b a s t u 255 r0 r1 g0 g1 b0 b1 a0 a1 s0 s1 t0 t1 u0 u1 (by omega) (by omega) (by decide) w
  rw [hr, hg, hb, hs, ht, hu] at k5
  simp only [cp_in] at k4
  simp only [cp_out] at k5
  rw [divN_255c cr (by omega) (by omega), divN_255c cg (by omega) (by omega), divN_255c cb (by omega) (by omega), divN_255c a (by omega) (by omega)] at k4
  rw [show (255 : Int) - 255 = 0 by decide] at k5
  simp only [Int.mul_zero] at k5
  rw [show divN 0 = 0 by decide] at k5
  clear hio
  have k3 := fun w => compose_any 3 r g b a s t u 255 r0 r1 g0 g1 b0 b1 a0 a1 s0 s1 t0 t1 u0 u1 (by omega) (by omega) (by decide) w
  rw [hr, hg, hb, hs, ht, hu] at k3
  simp only [cp_over] at k3
  obtain ⟨v0, hv0⟩ : ∃ z, divN (cr * 255 + cs * (255 - a)) = z := ⟨_, rfl⟩
  obtain ⟨v1, hv1⟩ : ∃ z, divN (cg * 255 + ct * (255 - a)) = z := ⟨_, rfl⟩
  obtain ⟨v2, hv2⟩ : ∃ z, divN (cb * 255 + cu * (255 - a)) = z := ⟨_, rfl⟩
  obtain ⟨v3, hv3⟩ : ∃ z, divN (a * 255 + 255 * (255 - a)) = z := ⟨_, rfl⟩
  rw [hv0, hv1, hv2, hv3] at k3
  have k6 := fun w => compose_any 6 r g b a s t u 255 r0 r1 g0 g1 b0 b1 a0 a1 s0 s1 t0 t1 u0 u1 (by omega) (by omega) (by decide) w
  rw [hr, hg, hb, hs, ht, hu] at k6
  simp only [cp_atop] at k6
  rw [hv0, hv1, hv2, hv3] at k6
  obtain ⟨mA, hmA⟩ : ∃ z : Int, (if (a : Int) < 255 then (255 : Int) else a) = z := ⟨_, rfl⟩
  obtain ⟨mR, hmR⟩ : ∃ z, (if cr < cs then cs else cr) = z := ⟨_, rfl⟩
  have q3 : decide ((a : Int) < a) = false := by simp <;> omega
  have q4 : decide ((a : Int) < 0) = false := by simp <;> omega
  have q5 : decide (p3 < mA) = false := by
    simp only [decide_eq_false_iff_not]; rw [← hmA]; split <;> omega
  have q6 : decide (p0 < mR) = false := by
    simp only [decide_eq_false_iff_not]; rw [← hmR]; split <;> omega
  have haa : a - a = 0 := by omega
  have ne1p : ¬ a = 255 := by simpa using ne1
  have ne1q : (a != 255) = true := by simpa using ne1
  clear he0 he1 he2 he3 hy0 hy1 hy2 hy3 hx0 hx1 hx2 hx3 hp0 hp1 hp2 hp3 hv0 hv1 hv2 hv3
  go_enter Try.func8, Try.ntmps8
  go_wp2
  refine wp_region_env (fun w' => w'.cell? ⟨w.heap.size, 0, none⟩ = some (.int .u8 r) ∧ w'.frozen? ⟨w.heap.size, 0, none⟩ = false ∧ w'.cell? ⟨w.heap.size, 1, none⟩ = some (.int .u8 g) ∧ w'.frozen? ⟨w.heap.size, 1, none⟩ = false ∧ w'.cell? ⟨w.heap.size, 2, none⟩ = some (.int .u8 b) ∧ w'.frozen? ⟨w.heap.size, 2, none⟩ = false ∧ w'.cell? ⟨w.heap.size, 3, none⟩ = some (.int .u8 a) ∧ w'.frozen? ⟨w.heap.size, 3, none⟩ = false ∧ w'.cell? ⟨w.heap.size + 1, 0, none⟩ = some (.int .u8 s) ∧ w'.frozen? ⟨w.heap.size + 1, 0, none⟩ = false ∧ w'.cell? ⟨w.heap.size + 1, 1, none⟩ = some (.int .u8 t) ∧ w'.frozen? ⟨w.heap.size + 1, 1, none⟩ = false ∧ w'.cell? ⟨w.heap.size + 1, 2, none⟩ = some (.int .u8 u) ∧ w'.frozen? ⟨w.heap.size + 1, 2, none⟩ = false ∧ w'.cell? ⟨w.heap.size + 1, 3, none⟩ = some (.int .u8 255) ∧ w'.frozen? ⟨w.heap.size + 1, 3, none⟩ = false) (fun W => W.cell? ⟨w.heap.size, 0, none⟩ = some (.int .u8 r) ∧ W.frozen? ⟨w.heap.size, 0, none⟩ = false ∧ W.cell? ⟨w.heap.size, 1, none⟩ = some (.int .u8 g) ∧ W.frozen? ⟨w.heap.size, 1, none⟩ = false ∧ W.cell? ⟨w.heap.size, 2, none⟩ = some (.int .u8 b) ∧ W.frozen? ⟨w.heap.size, 2, none⟩ = false ∧ W.cell? ⟨w.heap.size, 3, none⟩ = some (.int .u8 a) ∧ W.frozen? ⟨w.heap.size, 3, none⟩ = false ∧ W.cell? ⟨w.heap.size + 1, 0, none⟩ = some (.int .u8 s) ∧ W.frozen? ⟨w.heap.size + 1, 0, none⟩ = false ∧ W.cell? ⟨w.heap.size + 1, 1, none⟩ = some (.int .u8 t) ∧ W.frozen? ⟨w.heap.size + 1, 1, none⟩ = false ∧ W.cell? ⟨w.heap.size + 1, 2, none⟩ = some (.int .u8 u) ∧ W.frozen? ⟨w.heap.size + 1, 2, none⟩ = false ∧ W.cell? ⟨w.heap.size + 1, 3, none⟩ = some (.int .u8 255) ∧ W.frozen? ⟨w.heap.size + 1, 3, none⟩ = false ∧ Below w.heap.size w W ∧ w.heap.size + 1 + 1 ≤ W.heap.size) 6 158 [.val (.agg #[.int .u8 r, .int .u8 g, .int .u8 b, .int .u8 a]), .call 21 #[.agg #[.int .u8 r, .int .u8 g, .int .u8 b, .int .u8 a]] (.agg #[.int .u8 cr, .int .u8 cg, .int .u8 cb, .int .u8 a]), .val (.agg #[.int .u8 s, .int .u8 t, .int .u8 u, .int .u8 255]), .call 21 #[.agg #[.int .u8 s, .int .u8 t, .int .u8 u, .int .u8 255]] (.agg #[.int .u8 cs, .int .u8 ct, .int .u8 cu, .int .u8 255]), .fresh (.cells #[.int .u8 0, .int .u8 0, .int .u8 0, .int .u8 0] 29), .fresh (.cells #[.int .u8 0, .int .u8 0, .int .u8 0, .int .u8 0] 29)] (by kernel_rfl) (by kernel_rfl) rfl (by kernel_rfl) (by rintro w1 w2 ⟨h0, h1, h2, h3, h4, h5, h6, h7, h8, h9, h10, h11, h12, h13, h14, h15⟩ hb; exact ⟨bcs hb h0, bfs hb h0 h1, bcs hb h2, bfs hb h2 h3, bcs hb h4, bfs hb h4 h5, bcs hb h6, bfs hb h6 h7, bcs hb h8, bfs hb h8 h9, bcs hb h10, bfs hb h10 h11, bcs hb h12, bfs hb h12 h13, bcs hb h14, bfs hb h14 h15⟩) ⟨by first | with_reducible assumption | go_simp, by first | with_reducible assumption | go_simp, by first | with_reducible assumption | go_simp, by first | with_reducible assumption | go_simp, by first | with_reducible assumption | go_simp, by first | with_reducible assumption | go_simp, by first | with_reducible assumption | go_simp, by first | with_reducible assumption | go_simp, by first | with_reducible assumption | go_simp, by first | with_reducible assumption | go_simp, by first | with_reducible assumption | go_simp, by first | with_reducible assumption | go_simp, by first | with_reducible assumption | go_simp, by first | with_reducible assumption | go_simp, by first | with_reducible assumption | go_simp, by first | with_reducible assumption | go_simp, by repeat (first | with_reducible exact Below.refl _ _ | fail | with_reducible apply below_drewN | with_reducible apply Below.drew | (with_reducible refine Below.alloc ?_ (by first | (simp; done) | (simp; omega) | omega) _) | (with_reducible refine Below.setCell ?_ (by first | (simp; done) | (simp; omega) | omega) _)), by first | with_reducible assumption | (simp; done) | (simp; omega)⟩ ?_ ?_
  · rintro W ⟨k1_b2_0, g1_b2_0, k1_b2_1, g1_b2_1, k1_b2_2, g1_b2_2, k1_b2_3, g1_b2_3, k1_b3_0, g1_b3_0, k1_b3_1, g1_b3_1, k1_b3_2, g1_b3_2, k1_b3_3, g1_b3_3, B1, z1⟩; exact ⟨k1_b2_0, g1_b2_0, k1_b2_1, g1_b2_1, k1_b2_2, g1_b2_2, k1_b2_3, g1_b2_3, k1_b3_0, g1_b3_0, k1_b3_1, g1_b3_1, k1_b3_2, g1_b3_2, k1_b3_3, g1_b3_3⟩
  rintro w1 ⟨k1_b2_0, g1_b2_0, k1_b2_1, g1_b2_1, k1_b2_2, g1_b2_2, k1_b2_3, g1_b2_3, k1_b3_0, g1_b3_0, k1_b3_1, g1_b3_1, k1_b3_2, g1_b3_2, k1_b3_3, g1_b3_3, B1, z1⟩ gg
  simp only [List.take_succ_cons, List.take_zero, List.drop_succ_cons, List.drop_zero, List.cons_append, List.nil_append, List.append_nil]
  refine obe_val (by rfl) ?_ ?_
  · clear k1_b2_0 g1_b2_0 k1_b2_1 g1_b2_1 k1_b2_2 g1_b2_2 k1_b2_3 g1_b2_3 k1_b3_0 g1_b3_0 k1_b3_1 g1_b3_1 k1_b3_2 g1_b3_2 k1_b3_3 g1_b3_3 B1 z1; intro f hf; have u2 : f 2 = (.pointer (some ⟨w.heap.size, 0, none⟩)) := (by rw [← hf]; rfl); clear hf; rintro w' ⟨h0, h1, h2, h3, h4, h5, h6, h7, h8, h9, h10, h11, h12, h13, h14, h15⟩; go_simp; try exact IntWalk.i64_in _ (by omega)
  refine obe_call (by rfl) ?_ ?_ ?_
  · clear k1_b2_0 g1_b2_0 k1_b2_1 g1_b2_1 k1_b2_2 g1_b2_2 k1_b2_3 g1_b2_3 k1_b3_0 g1_b3_0 k1_b3_1 g1_b3_1 k1_b3_2 g1_b3_2 k1_b3_3 g1_b3_3 B1 z1; intro f hf; have u11 : f 11 = (.agg #[.int .u8 r, .int .u8 g, .int .u8 b, .int .u8 a]) := (by rw [← hf]; rfl); clear hf; intro w' _; simp only [execOp, resolve, invoke, rhoF_tmp, rhoF_func, rhoF_const, u11, List.map_toArray, List.map_cons, List.map_nil]; go_simp
  · clear k1_b2_0 g1_b2_0 k1_b2_1 g1_b2_1 k1_b2_2 g1_b2_2 k1_b2_3 g1_b2_3 k1_b3_0 g1_b3_0 k1_b3_1 g1_b3_1 k1_b3_2 g1_b3_2 k1_b3_3 g1_b3_3 B1 z1; rintro w' ⟨h0, h1, h2, h3, h4, h5, h6, h7, h8, h9, h10, h11, h12, h13, h14, h15⟩; exact rpclamp_any r g b a cr cg cb hr hg hb _
  refine obe_val (by rfl) ?_ ?_
  · clear k1_b2_0 g1_b2_0 k1_b2_1 g1_b2_1 k1_b2_2 g1_b2_2 k1_b2_3 g1_b2_3 k1_b3_0 g1_b3_0 k1_b3_1 g1_b3_1 k1_b3_2 g1_b3_2 k1_b3_3 g1_b3_3 B1 z1; intro f hf; have u3 : f 3 = (.pointer (some ⟨w.heap.size + 1, 0, none⟩)) := (by rw [← hf]; rfl); clear hf; rintro w' ⟨h0, h1, h2, h3, h4, h5, h6, h7, h8, h9, h10, h11, h12, h13, h14, h15⟩; go_simp; try exact IntWalk.i64_in _ (by omega)
  refine obe_call (by rfl) ?_ ?_ ?_
  · clear k1_b2_0 g1_b2_0 k1_b2_1 g1_b2_1 k1_b2_2 g1_b2_2 k1_b2_3 g1_b2_3 k1_b3_0 g1_b3_0 k1_b3_1 g1_b3_1 k1_b3_2 g1_b3_2 k1_b3_3 g1_b3_3 B1 z1; intro f hf; have u13 : f 13 = (.agg #[.int .u8 s, .int .u8 t, .int .u8 u, .int .u8 255]) := (by rw [← hf]; rfl); clear hf; intro w' _; simp only [execOp, resolve, invoke, rhoF_tmp, rhoF_func, rhoF_const, u13, List.map_toArray, List.map_cons, List.map_nil]; go_simp
  · clear k1_b2_0 g1_b2_0 k1_b2_1 g1_b2_1 k1_b2_2 g1_b2_2 k1_b2_3 g1_b2_3 k1_b3_0 g1_b3_0 k1_b3_1 g1_b3_1 k1_b3_2 g1_b3_2 k1_b3_3 g1_b3_3 B1 z1; rintro w' ⟨h0, h1, h2, h3, h4, h5, h6, h7, h8, h9, h10, h11, h12, h13, h14, h15⟩; exact rpclamp_any s t u 255 cs ct cu hs ht hu _
  refine obe_fresh (by rfl) ?_ ?_
  · clear k1_b2_0 g1_b2_0 k1_b2_1 g1_b2_1 k1_b2_2 g1_b2_2 k1_b2_3 g1_b2_3 k1_b3_0 g1_b3_0 k1_b3_1 g1_b3_1 k1_b3_2 g1_b3_2 k1_b3_3 g1_b3_3 B1 z1; intro f hf; clear hf; rintro w' ⟨h0, h1, h2, h3, h4, h5, h6, h7, h8, h9, h10, h11, h12, h13, h14, h15⟩; go_simp
  refine obe_fresh (by rfl) ?_ ?_
  · clear k1_b2_0 g1_b2_0 k1_b2_1 g1_b2_1 k1_b2_2 g1_b2_2 k1_b2_3 g1_b2_3 k1_b3_0 g1_b3_0 k1_b3_1 g1_b3_1 k1_b3_2 g1_b3_2 k1_b3_3 g1_b3_3 B1 z1; intro f hf; clear hf; rintro w' ⟨h0, h1, h2, h3, h4, h5, h6, h7, h8, h9, h10, h11, h12, h13, h14, h15⟩; go_simp
  refine obe_nil ?_
  rintro w2 ⟨h0, h1, h2, h3, h4, h5, h6, h7, h8, h9, h10, h11, h12, h13, h14, h15⟩ hb2 hF
  (try simp only [List.nil_append, List.append_nil, List.cons_append] at hF)
  simp only [puts, putD, Act.put, List.setIfInBounds_toArray, List.set_cons_zero, List.set_cons_succ]
  have lg5 : w1.heap.size ≤ gg 4 := hF.1.1
  have ug5 : gg 4 < w2.heap.size := hF.1.2.1
  have pg5 : w2.heap[gg 4]? = some (.cells #[.int .u8 0, .int .u8 0, .int .u8 0, .int .u8 0] 29) := hF.1.2.2
  have ng5_g6 : ¬ gg 4 = gg 5 := hF.2.1 (5, .cells #[.int .u8 0, .int .u8 0, .int .u8 0, .int .u8 0] 29) (by simp)
  have lg6 : w1.heap.size ≤ gg 5 := hF.2.2.1.1
  have ug6 : gg 5 < w2.heap.size := hF.2.2.1.2.1
  have pg6 : w2.heap[gg 5]? = some (.cells #[.int .u8 0, .int .u8 0, .int .u8 0, .int .u8 0] 29) := hF.2.2.1.2.2
  clear hF
  obtain ⟨g5, eg5⟩ : ∃ x, gg 4 = x := ⟨_, rfl⟩
  rw [eg5] at lg5 ug5 pg5 ng5_g6 ⊢
  clear eg5
  obtain ⟨g6, eg6⟩ : ∃ x, gg 5 = x := ⟨_, rfl⟩
  rw [eg6] at lg6 ug6 pg6 ng5_g6 ⊢
  clear eg6
  clear gg
  have k2_b2_0 := bcs hb2 k1_b2_0
  have g2_b2_0 := bfs hb2 k1_b2_0 g1_b2_0
  have k2_b2_1 := bcs hb2 k1_b2_1
  have g2_b2_1 := bfs hb2 k1_b2_1 g1_b2_1
  have k2_b2_2 := bcs hb2 k1_b2_2
  have g2_b2_2 := bfs hb2 k1_b2_2 g1_b2_2
  have k2_b2_3 := bcs hb2 k1_b2_3
  have g2_b2_3 := bfs hb2 k1_b2_3 g1_b2_3
  have k2_b3_0 := bcs hb2 k1_b3_0
  have g2_b3_0 := bfs hb2 k1_b3_0 g1_b3_0
  have k2_b3_1 := bcs hb2 k1_b3_1
  have g2_b3_1 := bfs hb2 k1_b3_1 g1_b3_1
  have k2_b3_2 := bcs hb2 k1_b3_2
  have g2_b3_2 := bfs hb2 k1_b3_2 g1_b3_2
  have k2_b3_3 := bcs hb2 k1_b3_3
  have g2_b3_3 := bfs hb2 k1_b3_3 g1_b3_3
  clear h0 h1 h2 h3 h4 h5 h6 h7 h8 h9 h10 h11 h12 h13 h14 h15
  have B2 := bel_step B1 hb2
  have z2 := Nat.le_trans z1 hb2.size
  have mg5 : w.heap.size ≤ g5 := by omega
  have ng5_b2 : ¬ g5 = w.heap.size := by omega
  have nb2_g5 : ¬ w.heap.size = g5 := by omega
  have ng5_b3 : ¬ g5 = w.heap.size + 1 := by omega
  have nb3_g5 : ¬ w.heap.size + 1 = g5 := by omega
  have k2_g5_0 : w2.cell? ⟨g5, 0, none⟩ = some (.int .u8 0) := cob pg5 0 rfl
  have g2_g5_0 : w2.frozen? ⟨g5, 0, none⟩ = false := fob pg5 0
  have k2_g5_1 : w2.cell? ⟨g5, 1, none⟩ = some (.int .u8 0) := cob pg5 1 rfl
  have g2_g5_1 : w2.frozen? ⟨g5, 1, none⟩ = false := fob pg5 1
  have k2_g5_2 : w2.cell? ⟨g5, 2, none⟩ = some (.int .u8 0) := cob pg5 2 rfl
  have g2_g5_2 : w2.frozen? ⟨g5, 2, none⟩ = false := fob pg5 2
  have k2_g5_3 : w2.cell? ⟨g5, 3, none⟩ = some (.int .u8 0) := cob pg5 3 rfl
  have g2_g5_3 : w2.frozen? ⟨g5, 3, none⟩ = false := fob pg5 3
  have mg6 : w.heap.size ≤ g6 := by omega
  have ng6_b2 : ¬ g6 = w.heap.size := by omega
  have nb2_g6 : ¬ w.heap.size = g6 := by omega
  have ng6_b3 : ¬ g6 = w.heap.size + 1 := by omega
  have nb3_g6 : ¬ w.heap.size + 1 = g6 := by omega
  have k2_g6_0 : w2.cell? ⟨g6, 0, none⟩ = some (.int .u8 0) := cob pg6 0 rfl
  have g2_g6_0 : w2.frozen? ⟨g6, 0, none⟩ = false := fob pg6 0
  have k2_g6_1 : w2.cell? ⟨g6, 1, none⟩ = some (.int .u8 0) := cob pg6 1 rfl
  have g2_g6_1 : w2.frozen? ⟨g6, 1, none⟩ = false := fob pg6 1
  have k2_g6_2 : w2.cell? ⟨g6, 2, none⟩ = some (.int .u8 0) := cob pg6 2 rfl
  have g2_g6_2 : w2.frozen? ⟨g6, 2, none⟩ = false := fob pg6 2
  have k2_g6_3 : w2.cell? ⟨g6, 3, none⟩ = some (.int .u8 0) := cob pg6 3 rfl
  have g2_g6_3 : w2.frozen? ⟨g6, 3, none⟩ = false := fob pg6 3
  have ng6_g5 : ¬ g6 = g5 := fun h => ng5_g6 h.symm
  clear lg5 ug5 pg5
  clear lg6 ug6 pg6
  clear hb2
  (try clear B1)
  (try clear z1)
  (try clear k1_b2_0)
  (try clear g1_b2_0)
  (try clear k1_b2_1)
  (try clear g1_b2_1)
  (try clear k1_b2_2)
  (try clear g1_b2_2)
  (try clear k1_b2_3)
  (try clear g1_b2_3)
  (try clear k1_b3_0)
  (try clear g1_b3_0)
  (try clear k1_b3_1)
  (try clear g1_b3_1)
  (try clear k1_b3_2)
  (try clear g1_b3_2)
  (try clear k1_b3_3)
  (try clear g1_b3_3)
  (try clear q1_b2)
  (try clear x1_b2)
  (try clear y1_b2)
  (try clear q1_b3)
  (try clear x1_b3)
  (try clear y1_b3)
  have q2_b2 : w.heap.size < w2.heap.size := qlt k2_b2_0
  have x2_b2 : ¬ w.heap.size = w2.heap.size := qne k2_b2_0
  have y2_b2 : ¬ w2.heap.size = w.heap.size := fun h => qne k2_b2_0 h.symm
  have q2_b3 : w.heap.size + 1 < w2.heap.size := qlt k2_b3_0
  have x2_b3 : ¬ w.heap.size + 1 = w2.heap.size := qne k2_b3_0
  have y2_b3 : ¬ w2.heap.size = w.heap.size + 1 := fun h => qne k2_b3_0 h.symm
  have q2_g5 : g5 < w2.heap.size := qlt k2_g5_0
  have x2_g5 : ¬ g5 = w2.heap.size := qne k2_g5_0
  have y2_g5 : ¬ w2.heap.size = g5 := fun h => qne k2_g5_0 h.symm
  have q2_g6 : g6 < w2.heap.size := qlt k2_g6_0
  have x2_g6 : ¬ g6 = w2.heap.size := qne k2_g6_0
  have y2_g6 : ¬ w2.heap.size = g6 := fun h => qne k2_g6_0 h.symm
  go_wp2
  refine wp_region_env (fun w' => w'.cell? ⟨w.heap.size, 0, none⟩ = some (.int .u8 r) ∧ w'.frozen? ⟨w.heap.size, 0, none⟩ = false ∧ w'.cell? ⟨w.heap.size, 1, none⟩ = some (.int .u8 g) ∧ w'.frozen? ⟨w.heap.size, 1, none⟩ = false ∧ w'.cell? ⟨w.heap.size, 2, none⟩ = some (.int .u8 b) ∧ w'.frozen? ⟨w.heap.size, 2, none⟩ = false ∧ w'.cell? ⟨w.heap.size, 3, none⟩ = some (.int .u8 a) ∧ w'.frozen? ⟨w.heap.size, 3, none⟩ = false ∧ w'.cell? ⟨w.heap.size + 1, 0, none⟩ = some (.int .u8 s) ∧ w'.frozen? ⟨w.heap.size + 1, 0, none⟩ = false ∧ w'.cell? ⟨w.heap.size + 1, 1, none⟩ = some (.int .u8 t) ∧ w'.frozen? ⟨w.heap.size + 1, 1, none⟩ = false ∧ w'.cell? ⟨w.heap.size + 1, 2, none⟩ = some (.int .u8 u) ∧ w'.frozen? ⟨w.heap.size + 1, 2, none⟩ = false ∧ w'.cell? ⟨w.heap.size + 1, 3, none⟩ = some (.int .u8 255) ∧ w'.frozen? ⟨w.heap.size + 1, 3, none⟩ = false ∧ w'.cell? ⟨g5, 0, none⟩ = some (.int .u8 cr) ∧ w'.frozen? ⟨g5, 0, none⟩ = false ∧ w'.cell? ⟨g5, 1, none⟩ = some (.int .u8 cg) ∧ w'.frozen? ⟨g5, 1, none⟩ = false ∧ w'.cell? ⟨g5, 2, none⟩ = some (.int .u8 cb) ∧ w'.frozen? ⟨g5, 2, none⟩ = false ∧ w'.cell? ⟨g5, 3, none⟩ = some (.int .u8 a) ∧ w'.frozen? ⟨g5, 3, none⟩ = false ∧ w'.cell? ⟨g6, 0, none⟩ = some (.int .u8 cs) ∧ w'.frozen? ⟨g6, 0, none⟩ = false ∧ w'.cell? ⟨g6, 1, none⟩ = some (.int .u8 ct) ∧ w'.frozen? ⟨g6, 1, none⟩ = false ∧ w'.cell? ⟨g6, 2, none⟩ = some (.int .u8 cu) ∧ w'.frozen? ⟨g6, 2, none⟩ = false ∧ w'.cell? ⟨g6, 3, none⟩ = some (.int .u8 255) ∧ w'.frozen? ⟨g6, 3, none⟩ = false) (fun W => W.cell? ⟨w.heap.size, 0, none⟩ = some (.int .u8 r) ∧ W.frozen? ⟨w.heap.size, 0, none⟩ = false ∧ W.cell? ⟨w.heap.size, 1, none⟩ = some (.int .u8 g) ∧ W.frozen? ⟨w.heap.size, 1, none⟩ = false ∧ W.cell? ⟨w.heap.size, 2, none⟩ = some (.int .u8 b) ∧ W.frozen? ⟨w.heap.size, 2, none⟩ = false ∧ W.cell? ⟨w.heap.size, 3, none⟩ = some (.int .u8 a) ∧ W.frozen? ⟨w.heap.size, 3, none⟩ = false ∧ W.cell? ⟨w.heap.size + 1, 0, none⟩ = some (.int .u8 s) ∧ W.frozen? ⟨w.heap.size + 1, 0, none⟩ = false ∧ W.cell? ⟨w.heap.size + 1, 1, none⟩ = some (.int .u8 t) ∧ W.frozen? ⟨w.heap.size + 1, 1, none⟩ = false ∧ W.cell? ⟨w.heap.size + 1, 2, none⟩ = some (.int .u8 u) ∧ W.frozen? ⟨w.heap.size + 1, 2, none⟩ = false ∧ W.cell? ⟨w.heap.size + 1, 3, none⟩ = some (.int .u8 255) ∧ W.frozen? ⟨w.heap.size + 1, 3, none⟩ = false ∧ W.cell? ⟨g5, 0, none⟩ = some (.int .u8 cr) ∧ W.frozen? ⟨g5, 0, none⟩ = false ∧ W.cell? ⟨g5, 1, none⟩ = some (.int .u8 cg) ∧ W.frozen? ⟨g5, 1, none⟩ = false ∧ W.cell? ⟨g5, 2, none⟩ = some (.int .u8 cb) ∧ W.frozen? ⟨g5, 2, none⟩ = false ∧ W.cell? ⟨g5, 3, none⟩ = some (.int .u8 a) ∧ W.frozen? ⟨g5, 3, none⟩ = false ∧ W.cell? ⟨g6, 0, none⟩ = some (.int .u8 cs) ∧ W.frozen? ⟨g6, 0, none⟩ = false ∧ W.cell? ⟨g6, 1, none⟩ = some (.int .u8 ct) ∧ W.frozen? ⟨g6, 1, none⟩ = false ∧ W.cell? ⟨g6, 2, none⟩ = some (.int .u8 cu) ∧ W.frozen? ⟨g6, 2, none⟩ = false ∧ W.cell? ⟨g6, 3, none⟩ = some (.int .u8 255) ∧ W.frozen? ⟨g6, 3, none⟩ = false ∧ Below w.heap.size w W ∧ w.heap.size + 1 + 1 ≤ W.heap.size) 39 158 [.val (.agg #[.int .u8 r, .int .u8 g, .int .u8 b, .int .u8 a]), .val (.agg #[.int .u8 s, .int .u8 t, .int .u8 u, .int .u8 255]), .call 15 #[.int .i64 1, .agg #[.int .u8 r, .int .u8 g, .int .u8 b, .int .u8 a], .agg #[.int .u8 s, .int .u8 t, .int .u8 u, .int .u8 255]] (.agg #[.int .u8 0, .int .u8 0, .int .u8 0, .int .u8 0]), .val (.agg #[.int .u8 0, .int .u8 0, .int .u8 0, .int .u8 0]), .val (.bool false), .val (.bool false), .val (.agg #[.int .u8 r, .int .u8 g, .int .u8 b, .int .u8 a]), .val (.agg #[.int .u8 s, .int .u8 t, .int .u8 u, .int .u8 255]), .call 15 #[.int .i64 2, .agg #[.int .u8 r, .int .u8 g, .int .u8 b, .int .u8 a], .agg #[.int .u8 s, .int .u8 t, .int .u8 u, .int .u8 255]] (.agg #[.int .u8 cr, .int .u8 cg, .int .u8 cb, .int .u8 a]), .val (.agg #[.int .u8 cr, .int .u8 cg, .int .u8 cb, .int .u8 a]), .val (.bool false), .val (.bool false), .val (.bool false), .val (.agg #[.int .u8 r, .int .u8 g, .int .u8 b, .int .u8 a]), .val (.agg #[.int .u8 s, .int .u8 t, .int .u8 u, .int .u8 255]), .call 15 #[.int .i64 9, .agg #[.int .u8 r, .int .u8 g, .int .u8 b, .int .u8 a], .agg #[.int .u8 s, .int .u8 t, .int .u8 u, .int .u8 255]] (.agg #[.int .u8 e0, .int .u8 e1, .int .u8 e2, .int .u8 e3]), .val (.agg #[.int .u8 s, .int .u8 t, .int .u8 u, .int .u8 255]), .val (.agg #[.int .u8 r, .int .u8 g, .int .u8 b, .int .u8 a]), .call 15 #[.int .i64 4, .agg #[.int .u8 s, .int .u8 t, .int .u8 u, .int .u8 255], .agg #[.int .u8 r, .int .u8 g, .int .u8 b, .int .u8 a]] (.agg #[.int .u8 e0, .int .u8 e1, .int .u8 e2, .int .u8 e3]), .val (.bool false), .val (.bool false), .val (.bool false), .val (.agg #[.int .u8 r, .int .u8 g, .int .u8 b, .int .u8 a]), .val (.agg #[.int .u8 s, .int .u8 t, .int .u8 u, .int .u8 255]), .call 15 #[.int .i64 10, .agg #[.int .u8 r, .int .u8 g, .int .u8 b, .int .u8 a], .agg #[.int .u8 s, .int .u8 t, .int .u8 u, .int .u8 255]] (.agg #[.int .u8 y0, .int .u8 y1, .int .u8 y2, .int .u8 y3]), .val (.agg #[.int .u8 s, .int .u8 t, .int .u8 u, .int .u8 255]), .val (.agg #[.int .u8 r, .int .u8 g, .int .u8 b, .int .u8 a]), .call 15 #[.int .i64 5, .agg #[.int .u8 s, .int .u8 t, .int .u8 u, .int .u8 255], .agg #[.int .u8 r, .int .u8 g, .int .u8 b, .int .u8 a]] (.agg #[.int .u8 y0, .int .u8 y1, .int .u8 y2, .int .u8 y3]), .val (.bool false), .val (.bool false), .val (.bool false), .val (.agg #[.int .u8 r, .int .u8 g, .int .u8 b, .int .u8 a]), .val (.agg #[.int .u8 s, .int .u8 t, .int .u8 u, .int .u8 255]), .call 15 #[.int .i64 7, .agg #[.int .u8 r, .int .u8 g, .int .u8 b, .int .u8 a], .agg #[.int .u8 s, .int .u8 t, .int .u8 u, .int .u8 255]] (.agg #[.int .u8 x0, .int .u8 x1, .int .u8 x2, .int .u8 x3]), .val (.agg #[.int .u8 s, .int .u8 t, .int .u8 u, .int .u8 255]), .val (.agg #[.int .u8 r, .int .u8 g, .int .u8 b, .int .u8 a]), .call 15 #[.int .i64 7, .agg #[.int .u8 s, .int .u8 t, .int .u8 u, .int .u8 255], .agg #[.int .u8 r, .int .u8 g, .int .u8 b, .int .u8 a]] (.agg #[.int .u8 x0, .int .u8 x1, .int .u8 x2, .int .u8 x3]), .val (.bool false), .val (.bool false)] (by kernel_rfl) (by kernel_rfl) rfl (by kernel_rfl) (by rintro w1 w2 ⟨h0, h1, h2, h3, h4, h5, h6, h7, h8, h9, h10, h11, h12, h13, h14, h15, h16, h17, h18, h19, h20, h21, h22, h23, h24, h25, h26, h27, h28, h29, h30, h31⟩ hb; exact ⟨bcs hb h0, bfs hb h0 h1, bcs hb h2, bfs hb h2 h3, bcs hb h4, bfs hb h4 h5, bcs hb h6, bfs hb h6 h7, bcs hb h8, bfs hb h8 h9, bcs hb h10, bfs hb h10 h11, bcs hb h12, bfs hb h12 h13, bcs hb h14, bfs hb h14 h15, bcs hb h16, bfs hb h16 h17, bcs hb h18, bfs hb h18 h19, bcs hb h20, bfs hb h20 h21, bcs hb h22, bfs hb h22 h23, bcs hb h24, bfs hb h24 h25, bcs hb h26, bfs hb h26 h27, bcs hb h28, bfs hb h28 h29, bcs hb h30, bfs hb h30 h31⟩) ⟨by first | with_reducible assumption | go_simp, by first | with_reducible assumption | go_simp, by first | with_reducible assumption | go_simp, by first | with_reducible assumption | go_simp, by first | with_reducible assumption | go_simp, by first | with_reducible assumption | go_simp, by first | with_reducible assumption | go_simp, by first | with_reducible assumption | go_simp, by first | with_reducible assumption | go_simp, by first | with_reducible assumption | go_simp, by first | with_reducible assumption | go_simp, by first | with_reducible assumption | go_simp, by first | with_reducible assumption | go_simp, by first | with_reducible assumption | go_simp, by first | with_reducible assumption | go_simp, by first | with_reducible assumption | go_simp, by first | with_reducible assumption | go_simp, by first | with_reducible assumption | go_simp, by first | with_reducible assumption | go_simp, by first | with_reducible assumption | go_simp, by first | with_reducible assumption | go_simp, by first | with_reducible assumption | go_simp, by first | with_reducible assumption | go_simp, by first | with_reducible assumption | go_simp, by first | with_reducible assumption | go_simp, by first | with_reducible assumption | go_simp, by first | with_reducible assumption | go_simp, by first | with_reducible assumption | go_simp, by first | with_reducible assumption | go_simp, by first | with_reducible assumption | go_simp, by first | with_reducible assumption | go_simp, by first | with_reducible assumption | go_simp, by repeat (first | with_reducible exact Below.refl _ _ | with_reducible exact B2 | with_reducible apply below_drewN | with_reducible apply Below.drew | (with_reducible refine Below.alloc ?_ (by first | (simp; done) | (simp; omega) | omega) _) | (with_reducible refine Below.setCell ?_ (by first | (simp; done) | (simp; omega) | omega) _)), by first | with_reducible assumption | (simp; done) | (simp; omega)⟩ ?_ ?_
  · rintro W ⟨k3_b2_0, g3_b2_0, k3_b2_1, g3_b2_1, k3_b2_2, g3_b2_2, k3_b2_3, g3_b2_3, k3_b3_0, g3_b3_0, k3_b3_1, g3_b3_1, k3_b3_2, g3_b3_2, k3_b3_3, g3_b3_3, k3_g5_0, g3_g5_0, k3_g5_1, g3_g5_1, k3_g5_2, g3_g5_2, k3_g5_3, g3_g5_3, k3_g6_0, g3_g6_0, k3_g6_1, g3_g6_1, k3_g6_2, g3_g6_2, k3_g6_3, g3_g6_3, B3, z3⟩; exact ⟨k3_b2_0, g3_b2_0, k3_b2_1, g3_b2_1, k3_b2_2, g3_b2_2, k3_b2_3, g3_b2_3, k3_b3_0, g3_b3_0, k3_b3_1, g3_b3_1, k3_b3_2, g3_b3_2, k3_b3_3, g3_b3_3, k3_g5_0, g3_g5_0, k3_g5_1, g3_g5_1, k3_g5_2, g3_g5_2, k3_g5_3, g3_g5_3, k3_g6_0, g3_g6_0, k3_g6_1, g3_g6_1, k3_g6_2, g3_g6_2, k3_g6_3, g3_g6_3⟩
  (try clear B2)
  (try clear z2)
  (try clear k2_b2_0)
  (try clear g2_b2_0)
  (try clear k2_b2_1)
  (try clear g2_b2_1)
  (try clear k2_b2_2)
  (try clear g2_b2_2)
  (try clear k2_b2_3)
  (try clear g2_b2_3)
  (try clear k2_b3_0)
  (try clear g2_b3_0)
  (try clear k2_b3_1)
  (try clear g2_b3_1)
  (try clear k2_b3_2)
  (try clear g2_b3_2)
  (try clear k2_b3_3)
  (try clear g2_b3_3)
  (try clear k2_g5_0)
  (try clear g2_g5_0)
  (try clear k2_g5_1)
  (try clear g2_g5_1)
  (try clear k2_g5_2)
  (try clear g2_g5_2)
  (try clear k2_g5_3)
  (try clear g2_g5_3)
  (try clear k2_g6_0)
  (try clear g2_g6_0)
  (try clear k2_g6_1)
  (try clear g2_g6_1)
  (try clear k2_g6_2)
  (try clear g2_g6_2)
  (try clear k2_g6_3)
  (try clear g2_g6_3)
  (try clear q2_b2)
  (try clear x2_b2)
  (try clear y2_b2)
  (try clear q2_b3)
  (try clear x2_b3)
  (try clear y2_b3)
  (try clear q2_g5)
  (try clear x2_g5)
  (try clear y2_g5)
  (try clear q2_g6)
  (try clear x2_g6)
  (try clear y2_g6)
  rintro w3 ⟨k3_b2_0, g3_b2_0, k3_b2_1, g3_b2_1, k3_b2_2, g3_b2_2, k3_b2_3, g3_b2_3, k3_b3_0, g3_b3_0, k3_b3_1, g3_b3_1, k3_b3_2, g3_b3_2, k3_b3_3, g3_b3_3, k3_g5_0, g3_g5_0, k3_g5_1, g3_g5_1, k3_g5_2, g3_g5_2, k3_g5_3, g3_g5_3, k3_g6_0, g3_g6_0, k3_g6_1, g3_g6_1, k3_g6_2, g3_g6_2, k3_g6_3, g3_g6_3, B3, z3⟩ gg
  simp only [List.take_succ_cons, List.take_zero, List.drop_succ_cons, List.drop_zero, List.cons_append, List.nil_append, List.append_nil]
  refine obe_val (by rfl) ?_ ?_
  · clear k3_b2_0 g3_b2_0 k3_b2_1 g3_b2_1 k3_b2_2 g3_b2_2 k3_b2_3 g3_b2_3 k3_b3_0 g3_b3_0 k3_b3_1 g3_b3_1 k3_b3_2 g3_b3_2 k3_b3_3 g3_b3_3 k3_g5_0 g3_g5_0 k3_g5_1 g3_g5_1 k3_g5_2 g3_g5_2 k3_g5_3 g3_g5_3 k3_g6_0 g3_g6_0 k3_g6_1 g3_g6_1 k3_g6_2 g3_g6_2 k3_g6_3 g3_g6_3 B3 z3; intro f hf; have u2 : f 2 = (.pointer (some ⟨w.heap.size, 0, none⟩)) := (by rw [← hf]; rfl); clear hf; rintro w' ⟨h0, h1, h2, h3, h4, h5, h6, h7, h8, h9, h10, h11, h12, h13, h14, h15, h16, h17, h18, h19, h20, h21, h22, h23, h24, h25, h26, h27, h28, h29, h30, h31⟩; go_simp; try exact IntWalk.i64_in _ (by omega)
  refine obe_val (by rfl) ?_ ?_
  · clear k3_b2_0 g3_b2_0 k3_b2_1 g3_b2_1 k3_b2_2 g3_b2_2 k3_b2_3 g3_b2_3 k3_b3_0 g3_b3_0 k3_b3_1 g3_b3_1 k3_b3_2 g3_b3_2 k3_b3_3 g3_b3_3 k3_g5_0 g3_g5_0 k3_g5_1 g3_g5_1 k3_g5_2 g3_g5_2 k3_g5_3 g3_g5_3 k3_g6_0 g3_g6_0 k3_g6_1 g3_g6_1 k3_g6_2 g3_g6_2 k3_g6_3 g3_g6_3 B3 z3; intro f hf; have u3 : f 3 = (.pointer (some ⟨w.heap.size + 1, 0, none⟩)) := (by rw [← hf]; rfl); clear hf; rintro w' ⟨h0, h1, h2, h3, h4, h5, h6, h7, h8, h9, h10, h11, h12, h13, h14, h15, h16, h17, h18, h19, h20, h21, h22, h23, h24, h25, h26, h27, h28, h29, h30, h31⟩; go_simp; try exact IntWalk.i64_in _ (by omega)
  refine obe_call (by rfl) ?_ ?_ ?_
  · clear k3_b2_0 g3_b2_0 k3_b2_1 g3_b2_1 k3_b2_2 g3_b2_2 k3_b2_3 g3_b2_3 k3_b3_0 g3_b3_0 k3_b3_1 g3_b3_1 k3_b3_2 g3_b3_2 k3_b3_3 g3_b3_3 k3_g5_0 g3_g5_0 k3_g5_1 g3_g5_1 k3_g5_2 g3_g5_2 k3_g5_3 g3_g5_3 k3_g6_0 g3_g6_0 k3_g6_1 g3_g6_1 k3_g6_2 g3_g6_2 k3_g6_3 g3_g6_3 B3 z3; intro f hf; have u15 : f 15 = (.agg #[.int .u8 r, .int .u8 g, .int .u8 b, .int .u8 a]) := (by rw [← hf]; rfl); have u16 : f 16 = (.agg #[.int .u8 s, .int .u8 t, .int .u8 u, .int .u8 255]) := (by rw [← hf]; rfl); clear hf; intro w' _; simp only [execOp, resolve, invoke, rhoF_tmp, rhoF_func, rhoF_const, u15, u16, List.map_toArray, List.map_cons, List.map_nil]; go_simp
  · clear k3_b2_0 g3_b2_0 k3_b2_1 g3_b2_1 k3_b2_2 g3_b2_2 k3_b2_3 g3_b2_3 k3_b3_0 g3_b3_0 k3_b3_1 g3_b3_1 k3_b3_2 g3_b3_2 k3_b3_3 g3_b3_3 k3_g5_0 g3_g5_0 k3_g5_1 g3_g5_1 k3_g5_2 g3_g5_2 k3_g5_3 g3_g5_3 k3_g6_0 g3_g6_0 k3_g6_1 g3_g6_1 k3_g6_2 g3_g6_2 k3_g6_3 g3_g6_3 B3 z3; rintro w' ⟨h0, h1, h2, h3, h4, h5, h6, h7, h8, h9, h10, h11, h12, h13, h14, h15, h16, h17, h18, h19, h20, h21, h22, h23, h24, h25, h26, h27, h28, h29, h30, h31⟩; exact k1 _
  refine obe_val (by rfl) ?_ ?_
  · clear k3_b2_0 g3_b2_0 k3_b2_1 g3_b2_1 k3_b2_2 g3_b2_2 k3_b2_3 g3_b2_3 k3_b3_0 g3_b3_0 k3_b3_1 g3_b3_1 k3_b3_2 g3_b3_2 k3_b3_3 g3_b3_3 k3_g5_0 g3_g5_0 k3_g5_1 g3_g5_1 k3_g5_2 g3_g5_2 k3_g5_3 g3_g5_3 k3_g6_0 g3_g6_0 k3_g6_1 g3_g6_1 k3_g6_2 g3_g6_2 k3_g6_3 g3_g6_3 B3 z3; intro f hf; clear hf; rintro w' ⟨h0, h1, h2, h3, h4, h5, h6, h7, h8, h9, h10, h11, h12, h13, h14, h15, h16, h17, h18, h19, h20, h21, h22, h23, h24, h25, h26, h27, h28, h29, h30, h31⟩; go_simp; try exact IntWalk.i64_in _ (by omega)
  refine obe_val (by rfl) ?_ ?_
  · clear k3_b2_0 g3_b2_0 k3_b2_1 g3_b2_1 k3_b2_2 g3_b2_2 k3_b2_3 g3_b2_3 k3_b3_0 g3_b3_0 k3_b3_1 g3_b3_1 k3_b3_2 g3_b3_2 k3_b3_3 g3_b3_3 k3_g5_0 g3_g5_0 k3_g5_1 g3_g5_1 k3_g5_2 g3_g5_2 k3_g5_3 g3_g5_3 k3_g6_0 g3_g6_0 k3_g6_1 g3_g6_1 k3_g6_2 g3_g6_2 k3_g6_3 g3_g6_3 B3 z3; intro f hf; have u17 : f 17 = (.agg #[.int .u8 0, .int .u8 0, .int .u8 0, .int .u8 0]) := (by rw [← hf]; rfl); have u18 : f 18 = (.agg #[.int .u8 0, .int .u8 0, .int .u8 0, .int .u8 0]) := (by rw [← hf]; rfl); clear hf; rintro w' ⟨h0, h1, h2, h3, h4, h5, h6, h7, h8, h9, h10, h11, h12, h13, h14, h15, h16, h17, h18, h19, h20, h21, h22, h23, h24, h25, h26, h27, h28, h29, h30, h31⟩; go_simp; try exact IntWalk.i64_in _ (by omega)
  refine obe_val (by rfl) ?_ ?_
  · clear k3_b2_0 g3_b2_0 k3_b2_1 g3_b2_1 k3_b2_2 g3_b2_2 k3_b2_3 g3_b2_3 k3_b3_0 g3_b3_0 k3_b3_1 g3_b3_1 k3_b3_2 g3_b3_2 k3_b3_3 g3_b3_3 k3_g5_0 g3_g5_0 k3_g5_1 g3_g5_1 k3_g5_2 g3_g5_2 k3_g5_3 g3_g5_3 k3_g6_0 g3_g6_0 k3_g6_1 g3_g6_1 k3_g6_2 g3_g6_2 k3_g6_3 g3_g6_3 B3 z3; intro f hf; have u19 : f 19 = (.bool false) := (by rw [← hf]; rfl); clear hf; rintro w' ⟨h0, h1, h2, h3, h4, h5, h6, h7, h8, h9, h10, h11, h12, h13, h14, h15, h16, h17, h18, h19, h20, h21, h22, h23, h24, h25, h26, h27, h28, h29, h30, h31⟩; go_simp; try exact IntWalk.i64_in _ (by omega)
  refine obe_val (by rfl) ?_ ?_
  · clear k3_b2_0 g3_b2_0 k3_b2_1 g3_b2_1 k3_b2_2 g3_b2_2 k3_b2_3 g3_b2_3 k3_b3_0 g3_b3_0 k3_b3_1 g3_b3_1 k3_b3_2 g3_b3_2 k3_b3_3 g3_b3_3 k3_g5_0 g3_g5_0 k3_g5_1 g3_g5_1 k3_g5_2 g3_g5_2 k3_g5_3 g3_g5_3 k3_g6_0 g3_g6_0 k3_g6_1 g3_g6_1 k3_g6_2 g3_g6_2 k3_g6_3 g3_g6_3 B3 z3; intro f hf; have u2 : f 2 = (.pointer (some ⟨w.heap.size, 0, none⟩)) := (by rw [← hf]; rfl); clear hf; rintro w' ⟨h0, h1, h2, h3, h4, h5, h6, h7, h8, h9, h10, h11, h12, h13, h14, h15, h16, h17, h18, h19, h20, h21, h22, h23, h24, h25, h26, h27, h28, h29, h30, h31⟩; go_simp; try exact IntWalk.i64_in _ (by omega)
  refine obe_val (by rfl) ?_ ?_
  · clear k3_b2_0 g3_b2_0 k3_b2_1 g3_b2_1 k3_b2_2 g3_b2_2 k3_b2_3 g3_b2_3 k3_b3_0 g3_b3_0 k3_b3_1 g3_b3_1 k3_b3_2 g3_b3_2 k3_b3_3 g3_b3_3 k3_g5_0 g3_g5_0 k3_g5_1 g3_g5_1 k3_g5_2 g3_g5_2 k3_g5_3 g3_g5_3 k3_g6_0 g3_g6_0 k3_g6_1 g3_g6_1 k3_g6_2 g3_g6_2 k3_g6_3 g3_g6_3 B3 z3; intro f hf; have u3 : f 3 = (.pointer (some ⟨w.heap.size + 1, 0, none⟩)) := (by rw [← hf]; rfl); clear hf; rintro w' ⟨h0, h1, h2, h3, h4, h5, h6, h7, h8, h9, h10, h11, h12, h13, h14, h15, h16, h17, h18, h19, h20, h21, h22, h23, h24, h25, h26, h27, h28, h29, h30, h31⟩; go_simp; try exact IntWalk.i64_in _ (by omega)
  refine obe_call (by rfl) ?_ ?_ ?_
  · clear k3_b2_0 g3_b2_0 k3_b2_1 g3_b2_1 k3_b2_2 g3_b2_2 k3_b2_3 g3_b2_3 k3_b3_0 g3_b3_0 k3_b3_1 g3_b3_1 k3_b3_2 g3_b3_2 k3_b3_3 g3_b3_3 k3_g5_0 g3_g5_0 k3_g5_1 g3_g5_1 k3_g5_2 g3_g5_2 k3_g5_3 g3_g5_3 k3_g6_0 g3_g6_0 k3_g6_1 g3_g6_1 k3_g6_2 g3_g6_2 k3_g6_3 g3_g6_3 B3 z3; intro f hf; have u21 : f 21 = (.agg #[.int .u8 r, .int .u8 g, .int .u8 b, .int .u8 a]) := (by rw [← hf]; rfl); have u22 : f 22 = (.agg #[.int .u8 s, .int .u8 t, .int .u8 u, .int .u8 255]) := (by rw [← hf]; rfl); clear hf; intro w' _; simp only [execOp, resolve, invoke, rhoF_tmp, rhoF_func, rhoF_const, u21, u22, List.map_toArray, List.map_cons, List.map_nil]; go_simp
  · clear k3_b2_0 g3_b2_0 k3_b2_1 g3_b2_1 k3_b2_2 g3_b2_2 k3_b2_3 g3_b2_3 k3_b3_0 g3_b3_0 k3_b3_1 g3_b3_1 k3_b3_2 g3_b3_2 k3_b3_3 g3_b3_3 k3_g5_0 g3_g5_0 k3_g5_1 g3_g5_1 k3_g5_2 g3_g5_2 k3_g5_3 g3_g5_3 k3_g6_0 g3_g6_0 k3_g6_1 g3_g6_1 k3_g6_2 g3_g6_2 k3_g6_3 g3_g6_3 B3 z3; rintro w' ⟨h0, h1, h2, h3, h4, h5, h6, h7, h8, h9, h10, h11, h12, h13, h14, h15, h16, h17, h18, h19, h20, h21, h22, h23, h24, h25, h26, h27, h28, h29, h30, h31⟩; exact k2 _
  refine obe_val (by rfl) ?_ ?_
  · clear k3_b2_0 g3_b2_0 k3_b2_1 g3_b2_1 k3_b2_2 g3_b2_2 k3_b2_3 g3_b2_3 k3_b3_0 g3_b3_0 k3_b3_1 g3_b3_1 k3_b3_2 g3_b3_2 k3_b3_3 g3_b3_3 k3_g5_0 g3_g5_0 k3_g5_1 g3_g5_1 k3_g5_2 g3_g5_2 k3_g5_3 g3_g5_3 k3_g6_0 g3_g6_0 k3_g6_1 g3_g6_1 k3_g6_2 g3_g6_2 k3_g6_3 g3_g6_3 B3 z3; intro f hf; have u5 : f 5 = (.pointer (some ⟨g5, 0, none⟩)) := (by rw [← hf]; rfl); clear hf; rintro w' ⟨h0, h1, h2, h3, h4, h5, h6, h7, h8, h9, h10, h11, h12, h13, h14, h15, h16, h17, h18, h19, h20, h21, h22, h23, h24, h25, h26, h27, h28, h29, h30, h31⟩; go_simp; try exact IntWalk.i64_in _ (by omega)
  refine obe_val (by rfl) ?_ ?_
  · clear k3_b2_0 g3_b2_0 k3_b2_1 g3_b2_1 k3_b2_2 g3_b2_2 k3_b2_3 g3_b2_3 k3_b3_0 g3_b3_0 k3_b3_1 g3_b3_1 k3_b3_2 g3_b3_2 k3_b3_3 g3_b3_3 k3_g5_0 g3_g5_0 k3_g5_1 g3_g5_1 k3_g5_2 g3_g5_2 k3_g5_3 g3_g5_3 k3_g6_0 g3_g6_0 k3_g6_1 g3_g6_1 k3_g6_2 g3_g6_2 k3_g6_3 g3_g6_3 B3 z3; intro f hf; have u23 : f 23 = (.agg #[.int .u8 cr, .int .u8 cg, .int .u8 cb, .int .u8 a]) := (by rw [← hf]; rfl); have u24 : f 24 = (.agg #[.int .u8 cr, .int .u8 cg, .int .u8 cb, .int .u8 a]) := (by rw [← hf]; rfl); clear hf; rintro w' ⟨h0, h1, h2, h3, h4, h5, h6, h7, h8, h9, h10, h11, h12, h13, h14, h15, h16, h17, h18, h19, h20, h21, h22, h23, h24, h25, h26, h27, h28, h29, h30, h31⟩; go_simp; try exact IntWalk.i64_in _ (by omega)
  refine obe_val (by rfl) ?_ ?_
  · clear k3_b2_0 g3_b2_0 k3_b2_1 g3_b2_1 k3_b2_2 g3_b2_2 k3_b2_3 g3_b2_3 k3_b3_0 g3_b3_0 k3_b3_1 g3_b3_1 k3_b3_2 g3_b3_2 k3_b3_3 g3_b3_3 k3_g5_0 g3_g5_0 k3_g5_1 g3_g5_1 k3_g5_2 g3_g5_2 k3_g5_3 g3_g5_3 k3_g6_0 g3_g6_0 k3_g6_1 g3_g6_1 k3_g6_2 g3_g6_2 k3_g6_3 g3_g6_3 B3 z3; intro f hf; have u20 : f 20 = (.bool false) := (by rw [← hf]; rfl); have u25 : f 25 = (.bool false) := (by rw [← hf]; rfl); clear hf; rintro w' ⟨h0, h1, h2, h3, h4, h5, h6, h7, h8, h9, h10, h11, h12, h13, h14, h15, h16, h17, h18, h19, h20, h21, h22, h23, h24, h25, h26, h27, h28, h29, h30, h31⟩; go_simp; try exact IntWalk.i64_in _ (by omega)
  refine obe_val (by rfl) ?_ ?_
  · clear k3_b2_0 g3_b2_0 k3_b2_1 g3_b2_1 k3_b2_2 g3_b2_2 k3_b2_3 g3_b2_3 k3_b3_0 g3_b3_0 k3_b3_1 g3_b3_1 k3_b3_2 g3_b3_2 k3_b3_3 g3_b3_3 k3_g5_0 g3_g5_0 k3_g5_1 g3_g5_1 k3_g5_2 g3_g5_2 k3_g5_3 g3_g5_3 k3_g6_0 g3_g6_0 k3_g6_1 g3_g6_1 k3_g6_2 g3_g6_2 k3_g6_3 g3_g6_3 B3 z3; intro f hf; have u26 : f 26 = (.bool false) := (by rw [← hf]; rfl); clear hf; rintro w' ⟨h0, h1, h2, h3, h4, h5, h6, h7, h8, h9, h10, h11, h12, h13, h14, h15, h16, h17, h18, h19, h20, h21, h22, h23, h24, h25, h26, h27, h28, h29, h30, h31⟩; go_simp; try exact IntWalk.i64_in _ (by omega)
  refine obe_val (by rfl) ?_ ?_
  · clear k3_b2_0 g3_b2_0 k3_b2_1 g3_b2_1 k3_b2_2 g3_b2_2 k3_b2_3 g3_b2_3 k3_b3_0 g3_b3_0 k3_b3_1 g3_b3_1 k3_b3_2 g3_b3_2 k3_b3_3 g3_b3_3 k3_g5_0 g3_g5_0 k3_g5_1 g3_g5_1 k3_g5_2 g3_g5_2 k3_g5_3 g3_g5_3 k3_g6_0 g3_g6_0 k3_g6_1 g3_g6_1 k3_g6_2 g3_g6_2 k3_g6_3 g3_g6_3 B3 z3; intro f hf; have u2 : f 2 = (.pointer (some ⟨w.heap.size, 0, none⟩)) := (by rw [← hf]; rfl); clear hf; rintro w' ⟨h0, h1, h2, h3, h4, h5, h6, h7, h8, h9, h10, h11, h12, h13, h14, h15, h16, h17, h18, h19, h20, h21, h22, h23, h24, h25, h26, h27, h28, h29, h30, h31⟩; go_simp; try exact IntWalk.i64_in _ (by omega)
  refine obe_val (by rfl) ?_ ?_
  · clear k3_b2_0 g3_b2_0 k3_b2_1 g3_b2_1 k3_b2_2 g3_b2_2 k3_b2_3 g3_b2_3 k3_b3_0 g3_b3_0 k3_b3_1 g3_b3_1 k3_b3_2 g3_b3_2 k3_b3_3 g3_b3_3 k3_g5_0 g3_g5_0 k3_g5_1 g3_g5_1 k3_g5_2 g3_g5_2 k3_g5_3 g3_g5_3 k3_g6_0 g3_g6_0 k3_g6_1 g3_g6_1 k3_g6_2 g3_g6_2 k3_g6_3 g3_g6_3 B3 z3; intro f hf; have u3 : f 3 = (.pointer (some ⟨w.heap.size + 1, 0, none⟩)) := (by rw [← hf]; rfl); clear hf; rintro w' ⟨h0, h1, h2, h3, h4, h5, h6, h7, h8, h9, h10, h11, h12, h13, h14, h15, h16, h17, h18, h19, h20, h21, h22, h23, h24, h25, h26, h27, h28, h29, h30, h31⟩; go_simp; try exact IntWalk.i64_in _ (by omega)
  refine obe_call (by rfl) ?_ ?_ ?_
  · clear k3_b2_0 g3_b2_0 k3_b2_1 g3_b2_1 k3_b2_2 g3_b2_2 k3_b2_3 g3_b2_3 k3_b3_0 g3_b3_0 k3_b3_1 g3_b3_1 k3_b3_2 g3_b3_2 k3_b3_3 g3_b3_3 k3_g5_0 g3_g5_0 k3_g5_1 g3_g5_1 k3_g5_2 g3_g5_2 k3_g5_3 g3_g5_3 k3_g6_0 g3_g6_0 k3_g6_1 g3_g6_1 k3_g6_2 g3_g6_2 k3_g6_3 g3_g6_3 B3 z3; intro f hf; have u28 : f 28 = (.agg #[.int .u8 r, .int .u8 g, .int .u8 b, .int .u8 a]) := (by rw [← hf]; rfl); have u29 : f 29 = (.agg #[.int .u8 s, .int .u8 t, .int .u8 u, .int .u8 255]) := (by rw [← hf]; rfl); clear hf; intro w' _; simp only [execOp, resolve, invoke, rhoF_tmp, rhoF_func, rhoF_const, u28, u29, List.map_toArray, List.map_cons, List.map_nil]; go_simp
  · clear k3_b2_0 g3_b2_0 k3_b2_1 g3_b2_1 k3_b2_2 g3_b2_2 k3_b2_3 g3_b2_3 k3_b3_0 g3_b3_0 k3_b3_1 g3_b3_1 k3_b3_2 g3_b3_2 k3_b3_3 g3_b3_3 k3_g5_0 g3_g5_0 k3_g5_1 g3_g5_1 k3_g5_2 g3_g5_2 k3_g5_3 g3_g5_3 k3_g6_0 g3_g6_0 k3_g6_1 g3_g6_1 k3_g6_2 g3_g6_2 k3_g6_3 g3_g6_3 B3 z3; rintro w' ⟨h0, h1, h2, h3, h4, h5, h6, h7, h8, h9, h10, h11, h12, h13, h14, h15, h16, h17, h18, h19, h20, h21, h22, h23, h24, h25, h26, h27, h28, h29, h30, h31⟩; exact k9 _
  refine obe_val (by rfl) ?_ ?_
  · clear k3_b2_0 g3_b2_0 k3_b2_1 g3_b2_1 k3_b2_2 g3_b2_2 k3_b2_3 g3_b2_3 k3_b3_0 g3_b3_0 k3_b3_1 g3_b3_1 k3_b3_2 g3_b3_2 k3_b3_3 g3_b3_3 k3_g5_0 g3_g5_0 k3_g5_1 g3_g5_1 k3_g5_2 g3_g5_2 k3_g5_3 g3_g5_3 k3_g6_0 g3_g6_0 k3_g6_1 g3_g6_1 k3_g6_2 g3_g6_2 k3_g6_3 g3_g6_3 B3 z3; intro f hf; have u3 : f 3 = (.pointer (some ⟨w.heap.size + 1, 0, none⟩)) := (by rw [← hf]; rfl); clear hf; rintro w' ⟨h0, h1, h2, h3, h4, h5, h6, h7, h8, h9, h10, h11, h12, h13, h14, h15, h16, h17, h18, h19, h20, h21, h22, h23, h24, h25, h26, h27, h28, h29, h30, h31⟩; go_simp; try exact IntWalk.i64_in _ (by omega)
  refine obe_val (by rfl) ?_ ?_
  · clear k3_b2_0 g3_b2_0 k3_b2_1 g3_b2_1 k3_b2_2 g3_b2_2 k3_b2_3 g3_b2_3 k3_b3_0 g3_b3_0 k3_b3_1 g3_b3_1 k3_b3_2 g3_b3_2 k3_b3_3 g3_b3_3 k3_g5_0 g3_g5_0 k3_g5_1 g3_g5_1 k3_g5_2 g3_g5_2 k3_g5_3 g3_g5_3 k3_g6_0 g3_g6_0 k3_g6_1 g3_g6_1 k3_g6_2 g3_g6_2 k3_g6_3 g3_g6_3 B3 z3; intro f hf; have u2 : f 2 = (.pointer (some ⟨w.heap.size, 0, none⟩)) := (by rw [← hf]; rfl); clear hf; rintro w' ⟨h0, h1, h2, h3, h4, h5, h6, h7, h8, h9, h10, h11, h12, h13, h14, h15, h16, h17, h18, h19, h20, h21, h22, h23, h24, h25, h26, h27, h28, h29, h30, h31⟩; go_simp; try exact IntWalk.i64_in _ (by omega)
  refine obe_call (by rfl) ?_ ?_ ?_
  · clear k3_b2_0 g3_b2_0 k3_b2_1 g3_b2_1 k3_b2_2 g3_b2_2 k3_b2_3 g3_b2_3 k3_b3_0 g3_b3_0 k3_b3_1 g3_b3_1 k3_b3_2 g3_b3_2 k3_b3_3 g3_b3_3 k3_g5_0 g3_g5_0 k3_g5_1 g3_g5_1 k3_g5_2 g3_g5_2 k3_g5_3 g3_g5_3 k3_g6_0 g3_g6_0 k3_g6_1 g3_g6_1 k3_g6_2 g3_g6_2 k3_g6_3 g3_g6_3 B3 z3; intro f hf; have u31 : f 31 = (.agg #[.int .u8 s, .int .u8 t, .int .u8 u, .int .u8 255]) := (by rw [← hf]; rfl); have u32 : f 32 = (.agg #[.int .u8 r, .int .u8 g, .int .u8 b, .int .u8 a]) := (by rw [← hf]; rfl); clear hf; intro w' _; simp only [execOp, resolve, invoke, rhoF_tmp, rhoF_func, rhoF_const, u31, u32, List.map_toArray, List.map_cons, List.map_nil]; go_simp
  · clear k3_b2_0 g3_b2_0 k3_b2_1 g3_b2_1 k3_b2_2 g3_b2_2 k3_b2_3 g3_b2_3 k3_b3_0 g3_b3_0 k3_b3_1 g3_b3_1 k3_b3_2 g3_b3_2 k3_b3_3 g3_b3_3 k3_g5_0 g3_g5_0 k3_g5_1 g3_g5_1 k3_g5_2 g3_g5_2 k3_g5_3 g3_g5_3 k3_g6_0 g3_g6_0 k3_g6_1 g3_g6_1 k3_g6_2 g3_g6_2 k3_g6_3 g3_g6_3 B3 z3; rintro w' ⟨h0, h1, h2, h3, h4, h5, h6, h7, h8, h9, h10, h11, h12, h13, h14, h15, h16, h17, h18, h19, h20, h21, h22, h23, h24, h25, h26, h27, h28, h29, h30, h31⟩; exact k4b _
  refine obe_val (by rfl) ?_ ?_
  · clear k3_b2_0 g3_b2_0 k3_b2_1 g3_b2_1 k3_b2_2 g3_b2_2 k3_b2_3 g3_b2_3 k3_b3_0 g3_b3_0 k3_b3_1 g3_b3_1 k3_b3_2 g3_b3_2 k3_b3_3 g3_b3_3 k3_g5_0 g3_g5_0 k3_g5_1 g3_g5_1 k3_g5_2 g3_g5_2 k3_g5_3 g3_g5_3 k3_g6_0 g3_g6_0 k3_g6_1 g3_g6_1 k3_g6_2 g3_g6_2 k3_g6_3 g3_g6_3 B3 z3; intro f hf; have u30 : f 30 = (.agg #[.int .u8 e0, .int .u8 e1, .int .u8 e2, .int .u8 e3]) := (by rw [← hf]; rfl); have u33 : f 33 = (.agg #[.int .u8 e0, .int .u8 e1, .int .u8 e2, .int .u8 e3]) := (by rw [← hf]; rfl); clear hf; rintro w' ⟨h0, h1, h2, h3, h4, h5, h6, h7, h8, h9, h10, h11, h12, h13, h14, h15, h16, h17, h18, h19, h20, h21, h22, h23, h24, h25, h26, h27, h28, h29, h30, h31⟩; go_simp; try exact IntWalk.i64_in _ (by omega)
  refine obe_val (by rfl) ?_ ?_
  · clear k3_b2_0 g3_b2_0 k3_b2_1 g3_b2_1 k3_b2_2 g3_b2_2 k3_b2_3 g3_b2_3 k3_b3_0 g3_b3_0 k3_b3_1 g3_b3_1 k3_b3_2 g3_b3_2 k3_b3_3 g3_b3_3 k3_g5_0 g3_g5_0 k3_g5_1 g3_g5_1 k3_g5_2 g3_g5_2 k3_g5_3 g3_g5_3 k3_g6_0 g3_g6_0 k3_g6_1 g3_g6_1 k3_g6_2 g3_g6_2 k3_g6_3 g3_g6_3 B3 z3; intro f hf; have u27 : f 27 = (.bool false) := (by rw [← hf]; rfl); have u34 : f 34 = (.bool false) := (by rw [← hf]; rfl); clear hf; rintro w' ⟨h0, h1, h2, h3, h4, h5, h6, h7, h8, h9, h10, h11, h12, h13, h14, h15, h16, h17, h18, h19, h20, h21, h22, h23, h24, h25, h26, h27, h28, h29, h30, h31⟩; go_simp; try exact IntWalk.i64_in _ (by omega)
  refine obe_val (by rfl) ?_ ?_
  · clear k3_b2_0 g3_b2_0 k3_b2_1 g3_b2_1 k3_b2_2 g3_b2_2 k3_b2_3 g3_b2_3 k3_b3_0 g3_b3_0 k3_b3_1 g3_b3_1 k3_b3_2 g3_b3_2 k3_b3_3 g3_b3_3 k3_g5_0 g3_g5_0 k3_g5_1 g3_g5_1 k3_g5_2 g3_g5_2 k3_g5_3 g3_g5_3 k3_g6_0 g3_g6_0 k3_g6_1 g3_g6_1 k3_g6_2 g3_g6_2 k3_g6_3 g3_g6_3 B3 z3; intro f hf; have u35 : f 35 = (.bool false) := (by rw [← hf]; rfl); clear hf; rintro w' ⟨h0, h1, h2, h3, h4, h5, h6, h7, h8, h9, h10, h11, h12, h13, h14, h15, h16, h17, h18, h19, h20, h21, h22, h23, h24, h25, h26, h27, h28, h29, h30, h31⟩; go_simp; try exact IntWalk.i64_in _ (by omega)
  refine obe_val (by rfl) ?_ ?_
  · clear k3_b2_0 g3_b2_0 k3_b2_1 g3_b2_1 k3_b2_2 g3_b2_2 k3_b2_3 g3_b2_3 k3_b3_0 g3_b3_0 k3_b3_1 g3_b3_1 k3_b3_2 g3_b3_2 k3_b3_3 g3_b3_3 k3_g5_0 g3_g5_0 k3_g5_1 g3_g5_1 k3_g5_2 g3_g5_2 k3_g5_3 g3_g5_3 k3_g6_0 g3_g6_0 k3_g6_1 g3_g6_1 k3_g6_2 g3_g6_2 k3_g6_3 g3_g6_3 B3 z3; intro f hf; have u2 : f 2 = (.pointer (some ⟨w.heap.size, 0, none⟩)) := (by rw [← hf]; rfl); clear hf; rintro w' ⟨h0, h1, h2, h3, h4, h5, h6, h7, h8, h9, h10, h11, h12, h13, h14, h15, h16, h17, h18, h19, h20, h21, h22, h23, h24, h25, h26, h27, h28, h29, h30, h31⟩; go_simp; try exact IntWalk.i64_in _ (by omega)
  refine obe_val (by rfl) ?_ ?_
  · clear k3_b2_0 g3_b2_0 k3_b2_1 g3_b2_1 k3_b2_2 g3_b2_2 k3_b2_3 g3_b2_3 k3_b3_0 g3_b3_0 k3_b3_1 g3_b3_1 k3_b3_2 g3_b3_2 k3_b3_3 g3_b3_3 k3_g5_0 g3_g5_0 k3_g5_1 g3_g5_1 k3_g5_2 g3_g5_2 k3_g5_3 g3_g5_3 k3_g6_0 g3_g6_0 k3_g6_1 g3_g6_1 k3_g6_2 g3_g6_2 k3_g6_3 g3_g6_3 B3 z3; intro f hf; have u3 : f 3 = (.pointer (some ⟨w.heap.size + 1, 0, none⟩)) := (by rw [← hf]; rfl); clear hf; rintro w' ⟨h0, h1, h2, h3, h4, h5, h6, h7, h8, h9, h10, h11, h12, h13, h14, h15, h16, h17, h18, h19, h20, h21, h22, h23, h24, h25, h26, h27, h28, h29, h30, h31⟩; go_simp; try exact IntWalk.i64_in _ (by omega)
  refine obe_call (by rfl) ?_ ?_ ?_
  · clear k3_b2_0 g3_b2_0 k3_b2_1 g3_b2_1 k3_b2_2 g3_b2_2 k3_b2_3 g3_b2_3 k3_b3_0 g3_b3_0 k3_b3_1 g3_b3_1 k3_b3_2 g3_b3_2 k3_b3_3 g3_b3_3 k3_g5_0 g3_g5_0 k3_g5_1 g3_g5_1 k3_g5_2 g3_g5_2 k3_g5_3 g3_g5_3 k3_g6_0 g3_g6_0 k3_g6_1 g3_g6_1 k3_g6_2 g3_g6_2 k3_g6_3 g3_g6_3 B3 z3; intro f hf; have u37 : f 37 = (.agg #[.int .u8 r, .int .u8 g, .int .u8 b, .int .u8 a]) := (by rw [← hf]; rfl); have u38 : f 38 = (.agg #[.int .u8 s, .int .u8 t, .int .u8 u, .int .u8 255]) := (by rw [← hf]; rfl); clear hf; intro w' _; simp only [execOp, resolve, invoke, rhoF_tmp, rhoF_func, rhoF_const, u37, u38, List.map_toArray, List.map_cons, List.map_nil]; go_simp
  · clear k3_b2_0 g3_b2_0 k3_b2_1 g3_b2_1 k3_b2_2 g3_b2_2 k3_b2_3 g3_b2_3 k3_b3_0 g3_b3_0 k3_b3_1 g3_b3_1 k3_b3_2 g3_b3_2 k3_b3_3 g3_b3_3 k3_g5_0 g3_g5_0 k3_g5_1 g3_g5_1 k3_g5_2 g3_g5_2 k3_g5_3 g3_g5_3 k3_g6_0 g3_g6_0 k3_g6_1 g3_g6_1 k3_g6_2 g3_g6_2 k3_g6_3 g3_g6_3 B3 z3; rintro w' ⟨h0, h1, h2, h3, h4, h5, h6, h7, h8, h9, h10, h11, h12, h13, h14, h15, h16, h17, h18, h19, h20, h21, h22, h23, h24, h25, h26, h27, h28, h29, h30, h31⟩; exact k10 _
  refine obe_val (by rfl) ?_ ?_
  · clear k3_b2_0 g3_b2_0 k3_b2_1 g3_b2_1 k3_b2_2 g3_b2_2 k3_b2_3 g3_b2_3 k3_b3_0 g3_b3_0 k3_b3_1 g3_b3_1 k3_b3_2 g3_b3_2 k3_b3_3 g3_b3_3 k3_g5_0 g3_g5_0 k3_g5_1 g3_g5_1 k3_g5_2 g3_g5_2 k3_g5_3 g3_g5_3 k3_g6_0 g3_g6_0 k3_g6_1 g3_g6_1 k3_g6_2 g3_g6_2 k3_g6_3 g3_g6_3 B3 z3; intro f hf; have u3 : f 3 = (.pointer (some ⟨w.heap.size + 1, 0, none⟩)) := (by rw [← hf]; rfl); clear hf; rintro w' ⟨h0, h1, h2, h3, h4, h5, h6, h7, h8, h9, h10, h11, h12, h13, h14, h15, h16, h17, h18, h19, h20, h21, h22, h23, h24, h25, h26, h27, h28, h29, h30, h31⟩; go_simp; try exact IntWalk.i64_in _ (by omega)
  refine obe_val (by rfl) ?_ ?_
  · clear k3_b2_0 g3_b2_0 k3_b2_1 g3_b2_1 k3_b2_2 g3_b2_2 k3_b2_3 g3_b2_3 k3_b3_0 g3_b3_0 k3_b3_1 g3_b3_1 k3_b3_2 g3_b3_2 k3_b3_3 g3_b3_3 k3_g5_0 g3_g5_0 k3_g5_1 g3_g5_1 k3_g5_2 g3_g5_2 k3_g5_3 g3_g5_3 k3_g6_0 g3_g6_0 k3_g6_1 g3_g6_1 k3_g6_2 g3_g6_2 k3_g6_3 g3_g6_3 B3 z3; intro f hf; have u2 : f 2 = (.pointer (some ⟨w.heap.size, 0, none⟩)) := (by rw [← hf]; rfl); clear hf; rintro w' ⟨h0, h1, h2, h3, h4, h5, h6, h7, h8, h9, h10, h11, h12, h13, h14, h15, h16, h17, h18, h19, h20, h21, h22, h23, h24, h25, h26, h27, h28, h29, h30, h31⟩; go_simp; try exact IntWalk.i64_in _ (by omega)
  refine obe_call (by rfl) ?_ ?_ ?_
  · clear k3_b2_0 g3_b2_0 k3_b2_1 g3_b2_1 k3_b2_2 g3_b2_2 k3_b2_3 g3_b2_3 k3_b3_0 g3_b3_0 k3_b3_1 g3_b3_1 k3_b3_2 g3_b3_2 k3_b3_3 g3_b3_3 k3_g5_0 g3_g5_0 k3_g5_1 g3_g5_1 k3_g5_2 g3_g5_2 k3_g5_3 g3_g5_3 k3_g6_0 g3_g6_0 k3_g6_1 g3_g6_1 k3_g6_2 g3_g6_2 k3_g6_3 g3_g6_3 B3 z3; intro f hf; have u40 : f 40 = (.agg #[.int .u8 s, .int .u8 t, .int .u8 u, .int .u8 255]) := (by rw [← hf]; rfl); have u41 : f 41 = (.agg #[.int .u8 r, .int .u8 g, .int .u8 b, .int .u8 a]) := (by rw [← hf]; rfl); clear hf; intro w' _; simp only [execOp, resolve, invoke, rhoF_tmp, rhoF_func, rhoF_const, u40, u41, List.map_toArray, List.map_cons, List.map_nil]; go_simp
  · clear k3_b2_0 g3_b2_0 k3_b2_1 g3_b2_1 k3_b2_2 g3_b2_2 k3_b2_3 g3_b2_3 k3_b3_0 g3_b3_0 k3_b3_1 g3_b3_1 k3_b3_2 g3_b3_2 k3_b3_3 g3_b3_3 k3_g5_0 g3_g5_0 k3_g5_1 g3_g5_1 k3_g5_2 g3_g5_2 k3_g5_3 g3_g5_3 k3_g6_0 g3_g6_0 k3_g6_1 g3_g6_1 k3_g6_2 g3_g6_2 k3_g6_3 g3_g6_3 B3 z3; rintro w' ⟨h0, h1, h2, h3, h4, h5, h6, h7, h8, h9, h10, h11, h12, h13, h14, h15, h16, h17, h18, h19, h20, h21, h22, h23, h24, h25, h26, h27, h28, h29, h30, h31⟩; exact k5b _
  refine obe_val (by rfl) ?_ ?_
  · clear k3_b2_0 g3_b2_0 k3_b2_1 g3_b2_1 k3_b2_2 g3_b2_2 k3_b2_3 g3_b2_3 k3_b3_0 g3_b3_0 k3_b3_1 g3_b3_1 k3_b3_2 g3_b3_2 k3_b3_3 g3_b3_3 k3_g5_0 g3_g5_0 k3_g5_1 g3_g5_1 k3_g5_2 g3_g5_2 k3_g5_3 g3_g5_3 k3_g6_0 g3_g6_0 k3_g6_1 g3_g6_1 k3_g6_2 g3_g6_2 k3_g6_3 g3_g6_3 B3 z3; intro f hf; have u39 : f 39 = (.agg #[.int .u8 y0, .int .u8 y1, .int .u8 y2, .int .u8 y3]) := (by rw [← hf]; rfl); have u42 : f 42 = (.agg #[.int .u8 y0, .int .u8 y1, .int .u8 y2, .int .u8 y3]) := (by rw [← hf]; rfl); clear hf; rintro w' ⟨h0, h1, h2, h3, h4, h5, h6, h7, h8, h9, h10, h11, h12, h13, h14, h15, h16, h17, h18, h19, h20, h21, h22, h23, h24, h25, h26, h27, h28, h29, h30, h31⟩; go_simp; try exact IntWalk.i64_in _ (by omega)
  refine obe_val (by rfl) ?_ ?_
  · clear k3_b2_0 g3_b2_0 k3_b2_1 g3_b2_1 k3_b2_2 g3_b2_2 k3_b2_3 g3_b2_3 k3_b3_0 g3_b3_0 k3_b3_1 g3_b3_1 k3_b3_2 g3_b3_2 k3_b3_3 g3_b3_3 k3_g5_0 g3_g5_0 k3_g5_1 g3_g5_1 k3_g5_2 g3_g5_2 k3_g5_3 g3_g5_3 k3_g6_0 g3_g6_0 k3_g6_1 g3_g6_1 k3_g6_2 g3_g6_2 k3_g6_3 g3_g6_3 B3 z3; intro f hf; have u36 : f 36 = (.bool false) := (by rw [← hf]; rfl); have u43 : f 43 = (.bool false) := (by rw [← hf]; rfl); clear hf; rintro w' ⟨h0, h1, h2, h3, h4, h5, h6, h7, h8, h9, h10, h11, h12, h13, h14, h15, h16, h17, h18, h19, h20, h21, h22, h23, h24, h25, h26, h27, h28, h29, h30, h31⟩; go_simp; try exact IntWalk.i64_in _ (by omega)
  refine obe_val (by rfl) ?_ ?_
  · clear k3_b2_0 g3_b2_0 k3_b2_1 g3_b2_1 k3_b2_2 g3_b2_2 k3_b2_3 g3_b2_3 k3_b3_0 g3_b3_0 k3_b3_1 g3_b3_1 k3_b3_2 g3_b3_2 k3_b3_3 g3_b3_3 k3_g5_0 g3_g5_0 k3_g5_1 g3_g5_1 k3_g5_2 g3_g5_2 k3_g5_3 g3_g5_3 k3_g6_0 g3_g6_0 k3_g6_1 g3_g6_1 k3_g6_2 g3_g6_2 k3_g6_3 g3_g6_3 B3 z3; intro f hf; have u44 : f 44 = (.bool false) := (by rw [← hf]; rfl); clear hf; rintro w' ⟨h0, h1, h2, h3, h4, h5, h6, h7, h8, h9, h10, h11, h12, h13, h14, h15, h16, h17, h18, h19, h20, h21, h22, h23, h24, h25, h26, h27, h28, h29, h30, h31⟩; go_simp; try exact IntWalk.i64_in _ (by omega)
  refine obe_val (by rfl) ?_ ?_
  · clear k3_b2_0 g3_b2_0 k3_b2_1 g3_b2_1 k3_b2_2 g3_b2_2 k3_b2_3 g3_b2_3 k3_b3_0 g3_b3_0 k3_b3_1 g3_b3_1 k3_b3_2 g3_b3_2 k3_b3_3 g3_b3_3 k3_g5_0 g3_g5_0 k3_g5_1 g3_g5_1 k3_g5_2 g3_g5_2 k3_g5_3 g3_g5_3 k3_g6_0 g3_g6_0 k3_g6_1 g3_g6_1 k3_g6_2 g3_g6_2 k3_g6_3 g3_g6_3 B3 z3; intro f hf; have u2 : f 2 = (.pointer (some ⟨w.heap.size, 0, none⟩)) := (by rw [← hf]; rfl); clear hf; rintro w' ⟨h0, h1, h2, h3, h4, h5, h6, h7, h8, h9, h10, h11, h12, h13, h14, h15, h16, h17, h18, h19, h20, h21, h22, h23, h24, h25, h26, h27, h28, h29, h30, h31⟩; go_simp; try exact IntWalk.i64_in _ (by omega)
  refine obe_val (by rfl) ?_ ?_
  · clear k3_b2_0 g3_b2_0 k3_b2_1 g3_b2_1 k3_b2_2 g3_b2_2 k3_b2_3 g3_b2_3 k3_b3_0 g3_b3_0 k3_b3_1 g3_b3_1 k3_b3_2 g3_b3_2 k3_b3_3 g3_b3_3 k3_g5_0 g3_g5_0 k3_g5_1 g3_g5_1 k3_g5_2 g3_g5_2 k3_g5_3 g3_g5_3 k3_g6_0 g3_g6_0 k3_g6_1 g3_g6_1 k3_g6_2 g3_g6_2 k3_g6_3 g3_g6_3 B3 z3; intro f hf; have u3 : f 3 = (.pointer (some ⟨w.heap.size + 1, 0, none⟩)) := (by rw [← hf]; rfl); clear hf; rintro w' ⟨h0, h1, h2, h3, h4, h5, h6, h7, h8, h9, h10, h11, h12, h13, h14, h15, h16, h17, h18, h19, h20, h21, h22, h23, h24, h25, h26, h27, h28, h29, h30, h31⟩; go_simp; try exact IntWalk.i64_in _ (by omega)
  refine obe_call (by rfl) ?_ ?_ ?_
  · clear k3_b2_0 g3_b2_0 k3_b2_1 g3_b2_1 k3_b2_2 g3_b2_2 k3_b2_3 g3_b2_3 k3_b3_0 g3_b3_0 k3_b3_1 g3_b3_1 k3_b3_2 g3_b3_2 k3_b3_3 g3_b3_3 k3_g5_0 g3_g5_0 k3_g5_1 g3_g5_1 k3_g5_2 g3_g5_2 k3_g5_3 g3_g5_3 k3_g6_0 g3_g6_0 k3_g6_1 g3_g6_1 k3_g6_2 g3_g6_2 k3_g6_3 g3_g6_3 B3 z3; intro f hf; have u46 : f 46 = (.agg #[.int .u8 r, .int .u8 g, .int .u8 b, .int .u8 a]) := (by rw [← hf]; rfl); have u47 : f 47 = (.agg #[.int .u8 s, .int .u8 t, .int .u8 u, .int .u8 255]) := (by rw [← hf]; rfl); clear hf; intro w' _; simp only [execOp, resolve, invoke, rhoF_tmp, rhoF_func, rhoF_const, u46, u47, List.map_toArray, List.map_cons, List.map_nil]; go_simp
  · clear k3_b2_0 g3_b2_0 k3_b2_1 g3_b2_1 k3_b2_2 g3_b2_2 k3_b2_3 g3_b2_3 k3_b3_0 g3_b3_0 k3_b3_1 g3_b3_1 k3_b3_2 g3_b3_2 k3_b3_3 g3_b3_3 k3_g5_0 g3_g5_0 k3_g5_1 g3_g5_1 k3_g5_2 g3_g5_2 k3_g5_3 g3_g5_3 k3_g6_0 g3_g6_0 k3_g6_1 g3_g6_1 k3_g6_2 g3_g6_2 k3_g6_3 g3_g6_3 B3 z3; rintro w' ⟨h0, h1, h2, h3, h4, h5, h6, h7, h8, h9, h10, h11, h12, h13, h14, h15, h16, h17, h18, h19, h20, h21, h22, h23, h24, h25, h26, h27, h28, h29, h30, h31⟩; exact k7 _
  refine obe_val (by rfl) ?_ ?_
  · clear k3_b2_0 g3_b2_0 k3_b2_1 g3_b2_1 k3_b2_2 g3_b2_2 k3_b2_3 g3_b2_3 k3_b3_0 g3_b3_0 k3_b3_1 g3_b3_1 k3_b3_2 g3_b3_2 k3_b3_3 g3_b3_3 k3_g5_0 g3_g5_0 k3_g5_1 g3_g5_1 k3_g5_2 g3_g5_2 k3_g5_3 g3_g5_3 k3_g6_0 g3_g6_0 k3_g6_1 g3_g6_1 k3_g6_2 g3_g6_2 k3_g6_3 g3_g6_3 B3 z3; intro f hf; have u3 : f 3 = (.pointer (some ⟨w.heap.size + 1, 0, none⟩)) := (by rw [← hf]; rfl); clear hf; rintro w' ⟨h0, h1, h2, h3, h4, h5, h6, h7, h8, h9, h10, h11, h12, h13, h14, h15, h16, h17, h18, h19, h20, h21, h22, h23, h24, h25, h26, h27, h28, h29, h30, h31⟩; go_simp; try exact IntWalk.i64_in _ (by omega)
  refine obe_val (by rfl) ?_ ?_
  · clear k3_b2_0 g3_b2_0 k3_b2_1 g3_b2_1 k3_b2_2 g3_b2_2 k3_b2_3 g3_b2_3 k3_b3_0 g3_b3_0 k3_b3_1 g3_b3_1 k3_b3_2 g3_b3_2 k3_b3_3 g3_b3_3 k3_g5_0 g3_g5_0 k3_g5_1 g3_g5_1 k3_g5_2 g3_g5_2 k3_g5_3 g3_g5_3 k3_g6_0 g3_g6_0 k3_g6_1 g3_g6_1 k3_g6_2 g3_g6_2 k3_g6_3 g3_g6_3 B3 z3; intro f hf; have u2 : f 2 = (.pointer (some ⟨w.heap.size, 0, none⟩)) := (by rw [← hf]; rfl); clear hf; rintro w' ⟨h0, h1, h2, h3, h4, h5, h6, h7, h8, h9, h10, h11, h12, h13, h14, h15, h16, h17, h18, h19, h20, h21, h22, h23, h24, h25, h26, h27, h28, h29, h30, h31⟩; go_simp; try exact IntWalk.i64_in _ (by omega)
  refine obe_call (by rfl) ?_ ?_ ?_
  · clear k3_b2_0 g3_b2_0 k3_b2_1 g3_b2_1 k3_b2_2 g3_b2_2 k3_b2_3 g3_b2_3 k3_b3_0 g3_b3_0 k3_b3_1 g3_b3_1 k3_b3_2 g3_b3_2 k3_b3_3 g3_b3_3 k3_g5_0 g3_g5_0 k3_g5_1 g3_g5_1 k3_g5_2 g3_g5_2 k3_g5_3 g3_g5_3 k3_g6_0 g3_g6_0 k3_g6_1 g3_g6_1 k3_g6_2 g3_g6_2 k3_g6_3 g3_g6_3 B3 z3; intro f hf; have u49 : f 49 = (.agg #[.int .u8 s, .int .u8 t, .int .u8 u, .int .u8 255]) := (by rw [← hf]; rfl); have u50 : f 50 = (.agg #[.int .u8 r, .int .u8 g, .int .u8 b, .int .u8 a]) := (by rw [← hf]; rfl); clear hf; intro w' _; simp only [execOp, resolve, invoke, rhoF_tmp, rhoF_func, rhoF_const, u49, u50, List.map_toArray, List.map_cons, List.map_nil]; go_simp
  · clear k3_b2_0 g3_b2_0 k3_b2_1 g3_b2_1 k3_b2_2 g3_b2_2 k3_b2_3 g3_b2_3 k3_b3_0 g3_b3_0 k3_b3_1 g3_b3_1 k3_b3_2 g3_b3_2 k3_b3_3 g3_b3_3 k3_g5_0 g3_g5_0 k3_g5_1 g3_g5_1 k3_g5_2 g3_g5_2 k3_g5_3 g3_g5_3 k3_g6_0 g3_g6_0 k3_g6_1 g3_g6_1 k3_g6_2 g3_g6_2 k3_g6_3 g3_g6_3 B3 z3; rintro w' ⟨h0, h1, h2, h3, h4, h5, h6, h7, h8, h9, h10, h11, h12, h13, h14, h15, h16, h17, h18, h19, h20, h21, h22, h23, h24, h25, h26, h27, h28, h29, h30, h31⟩; exact k7b _
  refine obe_val (by rfl) ?_ ?_
  · clear k3_b2_0 g3_b2_0 k3_b2_1 g3_b2_1 k3_b2_2 g3_b2_2 k3_b2_3 g3_b2_3 k3_b3_0 g3_b3_0 k3_b3_1 g3_b3_1 k3_b3_2 g3_b3_2 k3_b3_3 g3_b3_3 k3_g5_0 g3_g5_0 k3_g5_1 g3_g5_1 k3_g5_2 g3_g5_2 k3_g5_3 g3_g5_3 k3_g6_0 g3_g6_0 k3_g6_1 g3_g6_1 k3_g6_2 g3_g6_2 k3_g6_3 g3_g6_3 B3 z3; intro f hf; have u48 : f 48 = (.agg #[.int .u8 x0, .int .u8 x1, .int .u8 x2, .int .u8 x3]) := (by rw [← hf]; rfl); have u51 : f 51 = (.agg #[.int .u8 x0, .int .u8 x1, .int .u8 x2, .int .u8 x3]) := (by rw [← hf]; rfl); clear hf; rintro w' ⟨h0, h1, h2, h3, h4, h5, h6, h7, h8, h9, h10, h11, h12, h13, h14, h15, h16, h17, h18, h19, h20, h21, h22, h23, h24, h25, h26, h27, h28, h29, h30, h31⟩; go_simp; try exact IntWalk.i64_in _ (by omega)
  refine obe_val (by rfl) ?_ ?_
  · clear k3_b2_0 g3_b2_0 k3_b2_1 g3_b2_1 k3_b2_2 g3_b2_2 k3_b2_3 g3_b2_3 k3_b3_0 g3_b3_0 k3_b3_1 g3_b3_1 k3_b3_2 g3_b3_2 k3_b3_3 g3_b3_3 k3_g5_0 g3_g5_0 k3_g5_1 g3_g5_1 k3_g5_2 g3_g5_2 k3_g5_3 g3_g5_3 k3_g6_0 g3_g6_0 k3_g6_1 g3_g6_1 k3_g6_2 g3_g6_2 k3_g6_3 g3_g6_3 B3 z3; intro f hf; have u45 : f 45 = (.bool false) := (by rw [← hf]; rfl); have u52 : f 52 = (.bool false) := (by rw [← hf]; rfl); clear hf; rintro w' ⟨h0, h1, h2, h3, h4, h5, h6, h7, h8, h9, h10, h11, h12, h13, h14, h15, h16, h17, h18, h19, h20, h21, h22, h23, h24, h25, h26, h27, h28, h29, h30, h31⟩; go_simp; try exact IntWalk.i64_in _ (by omega)
  refine obe_nil ?_
  rintro w4 ⟨h0, h1, h2, h3, h4, h5, h6, h7, h8, h9, h10, h11, h12, h13, h14, h15, h16, h17, h18, h19, h20, h21, h22, h23, h24, h25, h26, h27, h28, h29, h30, h31⟩ hb4 hF
  (try simp only [List.nil_append, List.append_nil, List.cons_append] at hF)
  simp only [puts, putD, Act.put, List.setIfInBounds_toArray, List.set_cons_zero, List.set_cons_succ]
  clear hF
  have k4_b2_0 := bcs hb4 k3_b2_0
  have g4_b2_0 := bfs hb4 k3_b2_0 g3_b2_0
  have k4_b2_1 := bcs hb4 k3_b2_1
  have g4_b2_1 := bfs hb4 k3_b2_1 g3_b2_1
  have k4_b2_2 := bcs hb4 k3_b2_2
  have g4_b2_2 := bfs hb4 k3_b2_2 g3_b2_2
  have k4_b2_3 := bcs hb4 k3_b2_3
  have g4_b2_3 := bfs hb4 k3_b2_3 g3_b2_3
  have k4_b3_0 := bcs hb4 k3_b3_0
  have g4_b3_0 := bfs hb4 k3_b3_0 g3_b3_0
  have k4_b3_1 := bcs hb4 k3_b3_1
  have g4_b3_1 := bfs hb4 k3_b3_1 g3_b3_1
  have k4_b3_2 := bcs hb4 k3_b3_2
  have g4_b3_2 := bfs hb4 k3_b3_2 g3_b3_2
  have k4_b3_3 := bcs hb4 k3_b3_3
  have g4_b3_3 := bfs hb4 k3_b3_3 g3_b3_3
  have k4_g5_0 := bcs hb4 k3_g5_0
  have g4_g5_0 := bfs hb4 k3_g5_0 g3_g5_0
  have k4_g5_1 := bcs hb4 k3_g5_1
  have g4_g5_1 := bfs hb4 k3_g5_1 g3_g5_1
  have k4_g5_2 := bcs hb4 k3_g5_2
  have g4_g5_2 := bfs hb4 k3_g5_2 g3_g5_2
  have k4_g5_3 := bcs hb4 k3_g5_3
  have g4_g5_3 := bfs hb4 k3_g5_3 g3_g5_3
  have k4_g6_0 := bcs hb4 k3_g6_0
  have g4_g6_0 := bfs hb4 k3_g6_0 g3_g6_0
  have k4_g6_1 := bcs hb4 k3_g6_1
  have g4_g6_1 := bfs hb4 k3_g6_1 g3_g6_1
  have k4_g6_2 := bcs hb4 k3_g6_2
  have g4_g6_2 := bfs hb4 k3_g6_2 g3_g6_2
  have k4_g6_3 := bcs hb4 k3_g6_3
  have g4_g6_3 := bfs hb4 k3_g6_3 g3_g6_3
  clear h0 h1 h2 h3 h4 h5 h6 h7 h8 h9 h10 h11 h12 h13 h14 h15 h16 h17 h18 h19 h20 h21 h22 h23 h24 h25 h26 h27 h28 h29 h30 h31
  have B4 := bel_step B3 hb4
  have z4 := Nat.le_trans z3 hb4.size
  clear hb4
  (try clear B3)
  (try clear z3)
  (try clear k3_b2_0)
  (try clear g3_b2_0)
  (try clear k3_b2_1)
  (try clear g3_b2_1)
  (try clear k3_b2_2)
  (try clear g3_b2_2)
  (try clear k3_b2_3)
  (try clear g3_b2_3)
  (try clear k3_b3_0)
  (try clear g3_b3_0)
  (try clear k3_b3_1)
  (try clear g3_b3_1)
  (try clear k3_b3_2)
  (try clear g3_b3_2)
  (try clear k3_b3_3)
  (try clear g3_b3_3)
  (try clear k3_g5_0)
  (try clear g3_g5_0)
  (try clear k3_g5_1)
  (try clear g3_g5_1)
  (try clear k3_g5_2)
  (try clear g3_g5_2)
  (try clear k3_g5_3)
  (try clear g3_g5_3)
  (try clear k3_g6_0)
  (try clear g3_g6_0)
  (try clear k3_g6_1)
  (try clear g3_g6_1)
  (try clear k3_g6_2)
  (try clear g3_g6_2)
  (try clear k3_g6_3)
  (try clear g3_g6_3)
  (try clear q3_b2)
  (try clear x3_b2)
  (try clear y3_b2)
  (try clear q3_b3)
  (try clear x3_b3)
  (try clear y3_b3)
  (try clear q3_g5)
  (try clear x3_g5)
  (try clear y3_g5)
  (try clear q3_g6)
  (try clear x3_g6)
  (try clear y3_g6)
  have q4_b2 : w.heap.size < w4.heap.size := qlt k4_b2_0
  have x4_b2 : ¬ w.heap.size = w4.heap.size := qne k4_b2_0
  have y4_b2 : ¬ w4.heap.size = w.heap.size := fun h => qne k4_b2_0 h.symm
  have q4_b3 : w.heap.size + 1 < w4.heap.size := qlt k4_b3_0
  have x4_b3 : ¬ w.heap.size + 1 = w4.heap.size := qne k4_b3_0
  have y4_b3 : ¬ w4.heap.size = w.heap.size + 1 := fun h => qne k4_b3_0 h.symm
  have q4_g5 : g5 < w4.heap.size := qlt k4_g5_0
  have x4_g5 : ¬ g5 = w4.heap.size := qne k4_g5_0
  have y4_g5 : ¬ w4.heap.size = g5 := fun h => qne k4_g5_0 h.symm
  have q4_g6 : g6 < w4.heap.size := qlt k4_g6_0
  have x4_g6 : ¬ g6 = w4.heap.size := qne k4_g6_0
  have y4_g6 : ¬ w4.heap.size = g6 := fun h => qne k4_g6_0 h.symm
  unfold wpList
  go_wp2
  refine wp_region_env (fun w' => w'.cell? ⟨w.heap.size, 0, none⟩ = some (.int .u8 r) ∧ w'.frozen? ⟨w.heap.size, 0, none⟩ = false ∧ w'.cell? ⟨w.heap.size, 1, none⟩ = some (.int .u8 g) ∧ w'.frozen? ⟨w.heap.size, 1, none⟩ = false ∧ w'.cell? ⟨w.heap.size, 2, none⟩ = some (.int .u8 b) ∧ w'.frozen? ⟨w.heap.size, 2, none⟩ = false ∧ w'.cell? ⟨w.heap.size, 3, none⟩ = some (.int .u8 a) ∧ w'.frozen? ⟨w.heap.size, 3, none⟩ = false ∧ w'.cell? ⟨w.heap.size + 1, 0, none⟩ = some (.int .u8 s) ∧ w'.frozen? ⟨w.heap.size + 1, 0, none⟩ = false ∧ w'.cell? ⟨w.heap.size + 1, 1, none⟩ = some (.int .u8 t) ∧ w'.frozen? ⟨w.heap.size + 1, 1, none⟩ = false ∧ w'.cell? ⟨w.heap.size + 1, 2, none⟩ = some (.int .u8 u) ∧ w'.frozen? ⟨w.heap.size + 1, 2, none⟩ = false ∧ w'.cell? ⟨w.heap.size + 1, 3, none⟩ = some (.int .u8 255) ∧ w'.frozen? ⟨w.heap.size + 1, 3, none⟩ = false ∧ w'.cell? ⟨g5, 0, none⟩ = some (.int .u8 cr) ∧ w'.frozen? ⟨g5, 0, none⟩ = false ∧ w'.cell? ⟨g5, 1, none⟩ = some (.int .u8 cg) ∧ w'.frozen? ⟨g5, 1, none⟩ = false ∧ w'.cell? ⟨g5, 2, none⟩ = some (.int .u8 cb) ∧ w'.frozen? ⟨g5, 2, none⟩ = false ∧ w'.cell? ⟨g5, 3, none⟩ = some (.int .u8 a) ∧ w'.frozen? ⟨g5, 3, none⟩ = false ∧ w'.cell? ⟨g6, 0, none⟩ = some (.int .u8 cs) ∧ w'.frozen? ⟨g6, 0, none⟩ = false ∧ w'.cell? ⟨g6, 1, none⟩ = some (.int .u8 ct) ∧ w'.frozen? ⟨g6, 1, none⟩ = false ∧ w'.cell? ⟨g6, 2, none⟩ = some (.int .u8 cu) ∧ w'.frozen? ⟨g6, 2, none⟩ = false ∧ w'.cell? ⟨g6, 3, none⟩ = some (.int .u8 255) ∧ w'.frozen? ⟨g6, 3, none⟩ = false) (fun W => W.cell? ⟨w.heap.size, 0, none⟩ = some (.int .u8 r) ∧ W.frozen? ⟨w.heap.size, 0, none⟩ = false ∧ W.cell? ⟨w.heap.size, 1, none⟩ = some (.int .u8 g) ∧ W.frozen? ⟨w.heap.size, 1, none⟩ = false ∧ W.cell? ⟨w.heap.size, 2, none⟩ = some (.int .u8 b) ∧ W.frozen? ⟨w.heap.size, 2, none⟩ = false ∧ W.cell? ⟨w.heap.size, 3, none⟩ = some (.int .u8 a) ∧ W.frozen? ⟨w.heap.size, 3, none⟩ = false ∧ W.cell? ⟨w.heap.size + 1, 0, none⟩ = some (.int .u8 s) ∧ W.frozen? ⟨w.heap.size + 1, 0, none⟩ = false ∧ W.cell? ⟨w.heap.size + 1, 1, none⟩ = some (.int .u8 t) ∧ W.frozen? ⟨w.heap.size + 1, 1, none⟩ = false ∧ W.cell? ⟨w.heap.size + 1, 2, none⟩ = some (.int .u8 u) ∧ W.frozen? ⟨w.heap.size + 1, 2, none⟩ = false ∧ W.cell? ⟨w.heap.size + 1, 3, none⟩ = some (.int .u8 255) ∧ W.frozen? ⟨w.heap.size + 1, 3, none⟩ = false ∧ W.cell? ⟨g5, 0, none⟩ = some (.int .u8 cr) ∧ W.frozen? ⟨g5, 0, none⟩ = false ∧ W.cell? ⟨g5, 1, none⟩ = some (.int .u8 cg) ∧ W.frozen? ⟨g5, 1, none⟩ = false ∧ W.cell? ⟨g5, 2, none⟩ = some (.int .u8 cb) ∧ W.frozen? ⟨g5, 2, none⟩ = false ∧ W.cell? ⟨g5, 3, none⟩ = some (.int .u8 a) ∧ W.frozen? ⟨g5, 3, none⟩ = false ∧ W.cell? ⟨g6, 0, none⟩ = some (.int .u8 cs) ∧ W.frozen? ⟨g6, 0, none⟩ = false ∧ W.cell? ⟨g6, 1, none⟩ = some (.int .u8 ct) ∧ W.frozen? ⟨g6, 1, none⟩ = false ∧ W.cell? ⟨g6, 2, none⟩ = some (.int .u8 cu) ∧ W.frozen? ⟨g6, 2, none⟩ = false ∧ W.cell? ⟨g6, 3, none⟩ = some (.int .u8 255) ∧ W.frozen? ⟨g6, 3, none⟩ = false ∧ Below w.heap.size w W ∧ w.heap.size + 1 + 1 ≤ W.heap.size) 12 158 [.val (.agg #[.int .u8 r, .int .u8 g, .int .u8 b, .int .u8 a]), .val (.agg #[.int .u8 s, .int .u8 t, .int .u8 u, .int .u8 255]), .call 15 #[.int .i64 4, .agg #[.int .u8 r, .int .u8 g, .int .u8 b, .int .u8 a], .agg #[.int .u8 s, .int .u8 t, .int .u8 u, .int .u8 255]] (.agg #[.int .u8 cr, .int .u8 cg, .int .u8 cb, .int .u8 a]), .val (.agg #[.int .u8 r, .int .u8 g, .int .u8 b, .int .u8 a]), .val (.agg #[.int .u8 s, .int .u8 t, .int .u8 u, .int .u8 255]), .call 15 #[.int .i64 5, .agg #[.int .u8 r, .int .u8 g, .int .u8 b, .int .u8 a], .agg #[.int .u8 s, .int .u8 t, .int .u8 u, .int .u8 255]] (.agg #[.int .u8 0, .int .u8 0, .int .u8 0, .int .u8 0]), .val (.agg #[.int .u8 r, .int .u8 g, .int .u8 b, .int .u8 a]), .val (.agg #[.int .u8 s, .int .u8 t, .int .u8 u, .int .u8 255]), .call 15 #[.int .i64 8, .agg #[.int .u8 r, .int .u8 g, .int .u8 b, .int .u8 a], .agg #[.int .u8 s, .int .u8 t, .int .u8 u, .int .u8 255]] (.agg #[.int .u8 p0, .int .u8 p1, .int .u8 p2, .int .u8 p3]), .fresh (.cells #[.int .u8 0, .int .u8 0, .int .u8 0, .int .u8 0] 29), .fresh (.cells #[.int .u8 0, .int .u8 0, .int .u8 0, .int .u8 0] 29), .fresh (.cells #[.int .u8 0, .int .u8 0, .int .u8 0, .int .u8 0] 29)] (by kernel_rfl) (by kernel_rfl) rfl (by kernel_rfl) (by rintro w1 w2 ⟨h0, h1, h2, h3, h4, h5, h6, h7, h8, h9, h10, h11, h12, h13, h14, h15, h16, h17, h18, h19, h20, h21, h22, h23, h24, h25, h26, h27, h28, h29, h30, h31⟩ hb; exact ⟨bcs hb h0, bfs hb h0 h1, bcs hb h2, bfs hb h2 h3, bcs hb h4, bfs hb h4 h5, bcs hb h6, bfs hb h6 h7, bcs hb h8, bfs hb h8 h9, bcs hb h10, bfs hb h10 h11, bcs hb h12, bfs hb h12 h13, bcs hb h14, bfs hb h14 h15, bcs hb h16, bfs hb h16 h17, bcs hb h18, bfs hb h18 h19, bcs hb h20, bfs hb h20 h21, bcs hb h22, bfs hb h22 h23, bcs hb h24, bfs hb h24 h25, bcs hb h26, bfs hb h26 h27, bcs hb h28, bfs hb h28 h29, bcs hb h30, bfs hb h30 h31⟩) ⟨by first | with_reducible assumption | go_simp, by first | with_reducible assumption | go_simp, by first | with_reducible assumption | go_simp, by first | with_reducible assumption | go_simp, by first | with_reducible assumption | go_simp, by first | with_reducible assumption | go_simp, by first | with_reducible assumption | go_simp, by first | with_reducible assumption | go_simp, by first | with_reducible assumption | go_simp, by first | with_reducible assumption | go_simp, by first | with_reducible assumption | go_simp, by first | with_reducible assumption | go_simp, by first | with_reducible assumption | go_simp, by first | with_reducible assumption | go_simp, by first | with_reducible assumption | go_simp, by first | with_reducible assumption | go_simp, by first | with_reducible assumption | go_simp, by first | with_reducible assumption | go_simp, by first | with_reducible assumption | go_simp, by first | with_reducible assumption | go_simp, by first | with_reducible assumption | go_simp, by first | with_reducible assumption | go_simp, by first | with_reducible assumption | go_simp, by first | with_reducible assumption | go_simp, by first | with_reducible assumption | go_simp, by first | with_reducible assumption | go_simp, by first | with_reducible assumption | go_simp, by first | with_reducible assumption | go_simp, by first | with_reducible assumption | go_simp, by first | with_reducible assumption | go_simp, by first | with_reducible assumption | go_simp, by first | with_reducible assumption | go_simp, by repeat (first | with_reducible exact Below.refl _ _ | with_reducible exact B4 | with_reducible apply below_drewN | with_reducible apply Below.drew | (with_reducible refine Below.alloc ?_ (by first | (simp; done) | (simp; omega) | omega) _) | (with_reducible refine Below.setCell ?_ (by first | (simp; done) | (simp; omega) | omega) _)), by first | with_reducible assumption | (simp; done) | (simp; omega)⟩ ?_ ?_
  · rintro W ⟨k5_b2_0, g5_b2_0, k5_b2_1, g5_b2_1, k5_b2_2, g5_b2_2, k5_b2_3, g5_b2_3, k5_b3_0, g5_b3_0, k5_b3_1, g5_b3_1, k5_b3_2, g5_b3_2, k5_b3_3, g5_b3_3, k5_g5_0, g5_g5_0, k5_g5_1, g5_g5_1, k5_g5_2, g5_g5_2, k5_g5_3, g5_g5_3, k5_g6_0, g5_g6_0, k5_g6_1, g5_g6_1, k5_g6_2, g5_g6_2, k5_g6_3, g5_g6_3, B5, z5⟩; exact ⟨k5_b2_0, g5_b2_0, k5_b2_1, g5_b2_1, k5_b2_2, g5_b2_2, k5_b2_3, g5_b2_3, k5_b3_0, g5_b3_0, k5_b3_1, g5_b3_1, k5_b3_2, g5_b3_2, k5_b3_3, g5_b3_3, k5_g5_0, g5_g5_0, k5_g5_1, g5_g5_1, k5_g5_2, g5_g5_2, k5_g5_3, g5_g5_3, k5_g6_0, g5_g6_0, k5_g6_1, g5_g6_1, k5_g6_2, g5_g6_2, k5_g6_3, g5_g6_3⟩
  (try clear B4)
  (try clear z4)
  (try clear k4_b2_0)
  (try clear g4_b2_0)
  (try clear k4_b2_1)
  (try clear g4_b2_1)
  (try clear k4_b2_2)
  (try clear g4_b2_2)
  (try clear k4_b2_3)
  (try clear g4_b2_3)
  (try clear k4_b3_0)
  (try clear g4_b3_0)
  (try clear k4_b3_1)
  (try clear g4_b3_1)
  (try clear k4_b3_2)
  (try clear g4_b3_2)
  (try clear k4_b3_3)
  (try clear g4_b3_3)
  (try clear k4_g5_0)
  (try clear g4_g5_0)
  (try clear k4_g5_1)
  (try clear g4_g5_1)
  (try clear k4_g5_2)
  (try clear g4_g5_2)
  (try clear k4_g5_3)
  (try clear g4_g5_3)
  (try clear k4_g6_0)
  (try clear g4_g6_0)
  (try clear k4_g6_1)
  (try clear g4_g6_1)
  (try clear k4_g6_2)
  (try clear g4_g6_2)
  (try clear k4_g6_3)
  (try clear g4_g6_3)
  (try clear q4_b2)
  (try clear x4_b2)
  (try clear y4_b2)
  (try clear q4_b3)
  (try clear x4_b3)
  (try clear y4_b3)
  (try clear q4_g5)
  (try clear x4_g5)
  (try clear y4_g5)
  (try clear q4_g6)
  (try clear x4_g6)
  (try clear y4_g6)
  rintro w5 ⟨k5_b2_0, g5_b2_0, k5_b2_1, g5_b2_1, k5_b2_2, g5_b2_2, k5_b2_3, g5_b2_3, k5_b3_0, g5_b3_0, k5_b3_1, g5_b3_1, k5_b3_2, g5_b3_2, k5_b3_3, g5_b3_3, k5_g5_0, g5_g5_0, k5_g5_1, g5_g5_1, k5_g5_2, g5_g5_2, k5_g5_3, g5_g5_3, k5_g6_0, g5_g6_0, k5_g6_1, g5_g6_1, k5_g6_2, g5_g6_2, k5_g6_3, g5_g6_3, B5, z5⟩ gg
  simp only [List.take_succ_cons, List.take_zero, List.drop_succ_cons, List.drop_zero, List.cons_append, List.nil_append, List.append_nil]
  refine obe_val (by rfl) ?_ ?_
  · clear k5_b2_0 g5_b2_0 k5_b2_1 g5_b2_1 k5_b2_2 g5_b2_2 k5_b2_3 g5_b2_3 k5_b3_0 g5_b3_0 k5_b3_1 g5_b3_1 k5_b3_2 g5_b3_2 k5_b3_3 g5_b3_3 k5_g5_0 g5_g5_0 k5_g5_1 g5_g5_1 k5_g5_2 g5_g5_2 k5_g5_3 g5_g5_3 k5_g6_0 g5_g6_0 k5_g6_1 g5_g6_1 k5_g6_2 g5_g6_2 k5_g6_3 g5_g6_3 B5 z5; intro f hf; have u2 : f 2 = (.pointer (some ⟨w.heap.size, 0, none⟩)) := (by rw [← hf]; rfl); clear hf; rintro w' ⟨h0, h1, h2, h3, h4, h5, h6, h7, h8, h9, h10, h11, h12, h13, h14, h15, h16, h17, h18, h19, h20, h21, h22, h23, h24, h25, h26, h27, h28, h29, h30, h31⟩; go_simp; try exact IntWalk.i64_in _ (by omega)
  refine obe_val (by rfl) ?_ ?_
  · clear k5_b2_0 g5_b2_0 k5_b2_1 g5_b2_1 k5_b2_2 g5_b2_2 k5_b2_3 g5_b2_3 k5_b3_0 g5_b3_0 k5_b3_1 g5_b3_1 k5_b3_2 g5_b3_2 k5_b3_3 g5_b3_3 k5_g5_0 g5_g5_0 k5_g5_1 g5_g5_1 k5_g5_2 g5_g5_2 k5_g5_3 g5_g5_3 k5_g6_0 g5_g6_0 k5_g6_1 g5_g6_1 k5_g6_2 g5_g6_2 k5_g6_3 g5_g6_3 B5 z5; intro f hf; have u3 : f 3 = (.pointer (some ⟨w.heap.size + 1, 0, none⟩)) := (by rw [← hf]; rfl); clear hf; rintro w' ⟨h0, h1, h2, h3, h4, h5, h6, h7, h8, h9, h10, h11, h12, h13, h14, h15, h16, h17, h18, h19, h20, h21, h22, h23, h24, h25, h26, h27, h28, h29, h30, h31⟩; go_simp; try exact IntWalk.i64_in _ (by omega)
  refine obe_call (by rfl) ?_ ?_ ?_
  · clear k5_b2_0 g5_b2_0 k5_b2_1 g5_b2_1 k5_b2_2 g5_b2_2 k5_b2_3 g5_b2_3 k5_b3_0 g5_b3_0 k5_b3_1 g5_b3_1 k5_b3_2 g5_b3_2 k5_b3_3 g5_b3_3 k5_g5_0 g5_g5_0 k5_g5_1 g5_g5_1 k5_g5_2 g5_g5_2 k5_g5_3 g5_g5_3 k5_g6_0 g5_g6_0 k5_g6_1 g5_g6_1 k5_g6_2 g5_g6_2 k5_g6_3 g5_g6_3 B5 z5; intro f hf; have u54 : f 54 = (.agg #[.int .u8 r, .int .u8 g, .int .u8 b, .int .u8 a]) := (by rw [← hf]; rfl); have u55 : f 55 = (.agg #[.int .u8 s, .int .u8 t, .int .u8 u, .int .u8 255]) := (by rw [← hf]; rfl); clear hf; intro w' _; simp only [execOp, resolve, invoke, rhoF_tmp, rhoF_func, rhoF_const, u54, u55, List.map_toArray, List.map_cons, List.map_nil]; go_simp
  · clear k5_b2_0 g5_b2_0 k5_b2_1 g5_b2_1 k5_b2_2 g5_b2_2 k5_b2_3 g5_b2_3 k5_b3_0 g5_b3_0 k5_b3_1 g5_b3_1 k5_b3_2 g5_b3_2 k5_b3_3 g5_b3_3 k5_g5_0 g5_g5_0 k5_g5_1 g5_g5_1 k5_g5_2 g5_g5_2 k5_g5_3 g5_g5_3 k5_g6_0 g5_g6_0 k5_g6_1 g5_g6_1 k5_g6_2 g5_g6_2 k5_g6_3 g5_g6_3 B5 z5; rintro w' ⟨h0, h1, h2, h3, h4, h5, h6, h7, h8, h9, h10, h11, h12, h13, h14, h15, h16, h17, h18, h19, h20, h21, h22, h23, h24, h25, h26, h27, h28, h29, h30, h31⟩; exact k4 _
  refine obe_val (by rfl) ?_ ?_
  · clear k5_b2_0 g5_b2_0 k5_b2_1 g5_b2_1 k5_b2_2 g5_b2_2 k5_b2_3 g5_b2_3 k5_b3_0 g5_b3_0 k5_b3_1 g5_b3_1 k5_b3_2 g5_b3_2 k5_b3_3 g5_b3_3 k5_g5_0 g5_g5_0 k5_g5_1 g5_g5_1 k5_g5_2 g5_g5_2 k5_g5_3 g5_g5_3 k5_g6_0 g5_g6_0 k5_g6_1 g5_g6_1 k5_g6_2 g5_g6_2 k5_g6_3 g5_g6_3 B5 z5; intro f hf; have u2 : f 2 = (.pointer (some ⟨w.heap.size, 0, none⟩)) := (by rw [← hf]; rfl); clear hf; rintro w' ⟨h0, h1, h2, h3, h4, h5, h6, h7, h8, h9, h10, h11, h12, h13, h14, h15, h16, h17, h18, h19, h20, h21, h22, h23, h24, h25, h26, h27, h28, h29, h30, h31⟩; go_simp; try exact IntWalk.i64_in _ (by omega)
  refine obe_val (by rfl) ?_ ?_
  · clear k5_b2_0 g5_b2_0 k5_b2_1 g5_b2_1 k5_b2_2 g5_b2_2 k5_b2_3 g5_b2_3 k5_b3_0 g5_b3_0 k5_b3_1 g5_b3_1 k5_b3_2 g5_b3_2 k5_b3_3 g5_b3_3 k5_g5_0 g5_g5_0 k5_g5_1 g5_g5_1 k5_g5_2 g5_g5_2 k5_g5_3 g5_g5_3 k5_g6_0 g5_g6_0 k5_g6_1 g5_g6_1 k5_g6_2 g5_g6_2 k5_g6_3 g5_g6_3 B5 z5; intro f hf; have u3 : f 3 = (.pointer (some ⟨w.heap.size + 1, 0, none⟩)) := (by rw [← hf]; rfl); clear hf; rintro w' ⟨h0, h1, h2, h3, h4, h5, h6, h7, h8, h9, h10, h11, h12, h13, h14, h15, h16, h17, h18, h19, h20, h21, h22, h23, h24, h25, h26, h27, h28, h29, h30, h31⟩; go_simp; try exact IntWalk.i64_in _ (by omega)
  refine obe_call (by rfl) ?_ ?_ ?_
  · clear k5_b2_0 g5_b2_0 k5_b2_1 g5_b2_1 k5_b2_2 g5_b2_2 k5_b2_3 g5_b2_3 k5_b3_0 g5_b3_0 k5_b3_1 g5_b3_1 k5_b3_2 g5_b3_2 k5_b3_3 g5_b3_3 k5_g5_0 g5_g5_0 k5_g5_1 g5_g5_1 k5_g5_2 g5_g5_2 k5_g5_3 g5_g5_3 k5_g6_0 g5_g6_0 k5_g6_1 g5_g6_1 k5_g6_2 g5_g6_2 k5_g6_3 g5_g6_3 B5 z5; intro f hf; have u57 : f 57 = (.agg #[.int .u8 r, .int .u8 g, .int .u8 b, .int .u8 a]) := (by rw [← hf]; rfl); have u58 : f 58 = (.agg #[.int .u8 s, .int .u8 t, .int .u8 u, .int .u8 255]) := (by rw [← hf]; rfl); clear hf; intro w' _; simp only [execOp, resolve, invoke, rhoF_tmp, rhoF_func, rhoF_const, u57, u58, List.map_toArray, List.map_cons, List.map_nil]; go_simp
  · clear k5_b2_0 g5_b2_0 k5_b2_1 g5_b2_1 k5_b2_2 g5_b2_2 k5_b2_3 g5_b2_3 k5_b3_0 g5_b3_0 k5_b3_1 g5_b3_1 k5_b3_2 g5_b3_2 k5_b3_3 g5_b3_3 k5_g5_0 g5_g5_0 k5_g5_1 g5_g5_1 k5_g5_2 g5_g5_2 k5_g5_3 g5_g5_3 k5_g6_0 g5_g6_0 k5_g6_1 g5_g6_1 k5_g6_2 g5_g6_2 k5_g6_3 g5_g6_3 B5 z5; rintro w' ⟨h0, h1, h2, h3, h4, h5, h6, h7, h8, h9, h10, h11, h12, h13, h14, h15, h16, h17, h18, h19, h20, h21, h22, h23, h24, h25, h26, h27, h28, h29, h30, h31⟩; exact k5 _
  refine obe_val (by rfl) ?_ ?_
  · clear k5_b2_0 g5_b2_0 k5_b2_1 g5_b2_1 k5_b2_2 g5_b2_2 k5_b2_3 g5_b2_3 k5_b3_0 g5_b3_0 k5_b3_1 g5_b3_1 k5_b3_2 g5_b3_2 k5_b3_3 g5_b3_3 k5_g5_0 g5_g5_0 k5_g5_1 g5_g5_1 k5_g5_2 g5_g5_2 k5_g5_3 g5_g5_3 k5_g6_0 g5_g6_0 k5_g6_1 g5_g6_1 k5_g6_2 g5_g6_2 k5_g6_3 g5_g6_3 B5 z5; intro f hf; have u2 : f 2 = (.pointer (some ⟨w.heap.size, 0, none⟩)) := (by rw [← hf]; rfl); clear hf; rintro w' ⟨h0, h1, h2, h3, h4, h5, h6, h7, h8, h9, h10, h11, h12, h13, h14, h15, h16, h17, h18, h19, h20, h21, h22, h23, h24, h25, h26, h27, h28, h29, h30, h31⟩; go_simp; try exact IntWalk.i64_in _ (by omega)
  refine obe_val (by rfl) ?_ ?_
  · clear k5_b2_0 g5_b2_0 k5_b2_1 g5_b2_1 k5_b2_2 g5_b2_2 k5_b2_3 g5_b2_3 k5_b3_0 g5_b3_0 k5_b3_1 g5_b3_1 k5_b3_2 g5_b3_2 k5_b3_3 g5_b3_3 k5_g5_0 g5_g5_0 k5_g5_1 g5_g5_1 k5_g5_2 g5_g5_2 k5_g5_3 g5_g5_3 k5_g6_0 g5_g6_0 k5_g6_1 g5_g6_1 k5_g6_2 g5_g6_2 k5_g6_3 g5_g6_3 B5 z5; intro f hf; have u3 : f 3 = (.pointer (some ⟨w.heap.size + 1, 0, none⟩)) := (by rw [← hf]; rfl); clear hf; rintro w' ⟨h0, h1, h2, h3, h4, h5, h6, h7, h8, h9, h10, h11, h12, h13, h14, h15, h16, h17, h18, h19, h20, h21, h22, h23, h24, h25, h26, h27, h28, h29, h30, h31⟩; go_simp; try exact IntWalk.i64_in _ (by omega)
  refine obe_call (by rfl) ?_ ?_ ?_
  · clear k5_b2_0 g5_b2_0 k5_b2_1 g5_b2_1 k5_b2_2 g5_b2_2 k5_b2_3 g5_b2_3 k5_b3_0 g5_b3_0 k5_b3_1 g5_b3_1 k5_b3_2 g5_b3_2 k5_b3_3 g5_b3_3 k5_g5_0 g5_g5_0 k5_g5_1 g5_g5_1 k5_g5_2 g5_g5_2 k5_g5_3 g5_g5_3 k5_g6_0 g5_g6_0 k5_g6_1 g5_g6_1 k5_g6_2 g5_g6_2 k5_g6_3 g5_g6_3 B5 z5; intro f hf; have u60 : f 60 = (.agg #[.int .u8 r, .int .u8 g, .int .u8 b, .int .u8 a]) := (by rw [← hf]; rfl); have u61 : f 61 = (.agg #[.int .u8 s, .int .u8 t, .int .u8 u, .int .u8 255]) := (by rw [← hf]; rfl); clear hf; intro w' _; simp only [execOp, resolve, invoke, rhoF_tmp, rhoF_func, rhoF_const, u60, u61, List.map_toArray, List.map_cons, List.map_nil]; go_simp
  · clear k5_b2_0 g5_b2_0 k5_b2_1 g5_b2_1 k5_b2_2 g5_b2_2 k5_b2_3 g5_b2_3 k5_b3_0 g5_b3_0 k5_b3_1 g5_b3_1 k5_b3_2 g5_b3_2 k5_b3_3 g5_b3_3 k5_g5_0 g5_g5_0 k5_g5_1 g5_g5_1 k5_g5_2 g5_g5_2 k5_g5_3 g5_g5_3 k5_g6_0 g5_g6_0 k5_g6_1 g5_g6_1 k5_g6_2 g5_g6_2 k5_g6_3 g5_g6_3 B5 z5; rintro w' ⟨h0, h1, h2, h3, h4, h5, h6, h7, h8, h9, h10, h11, h12, h13, h14, h15, h16, h17, h18, h19, h20, h21, h22, h23, h24, h25, h26, h27, h28, h29, h30, h31⟩; exact k8 _
  refine obe_fresh (by rfl) ?_ ?_
  · clear k5_b2_0 g5_b2_0 k5_b2_1 g5_b2_1 k5_b2_2 g5_b2_2 k5_b2_3 g5_b2_3 k5_b3_0 g5_b3_0 k5_b3_1 g5_b3_1 k5_b3_2 g5_b3_2 k5_b3_3 g5_b3_3 k5_g5_0 g5_g5_0 k5_g5_1 g5_g5_1 k5_g5_2 g5_g5_2 k5_g5_3 g5_g5_3 k5_g6_0 g5_g6_0 k5_g6_1 g5_g6_1 k5_g6_2 g5_g6_2 k5_g6_3 g5_g6_3 B5 z5; intro f hf; clear hf; rintro w' ⟨h0, h1, h2, h3, h4, h5, h6, h7, h8, h9, h10, h11, h12, h13, h14, h15, h16, h17, h18, h19, h20, h21, h22, h23, h24, h25, h26, h27, h28, h29, h30, h31⟩; go_simp
  refine obe_fresh (by rfl) ?_ ?_
  · clear k5_b2_0 g5_b2_0 k5_b2_1 g5_b2_1 k5_b2_2 g5_b2_2 k5_b2_3 g5_b2_3 k5_b3_0 g5_b3_0 k5_b3_1 g5_b3_1 k5_b3_2 g5_b3_2 k5_b3_3 g5_b3_3 k5_g5_0 g5_g5_0 k5_g5_1 g5_g5_1 k5_g5_2 g5_g5_2 k5_g5_3 g5_g5_3 k5_g6_0 g5_g6_0 k5_g6_1 g5_g6_1 k5_g6_2 g5_g6_2 k5_g6_3 g5_g6_3 B5 z5; intro f hf; clear hf; rintro w' ⟨h0, h1, h2, h3, h4, h5, h6, h7, h8, h9, h10, h11, h12, h13, h14, h15, h16, h17, h18, h19, h20, h21, h22, h23, h24, h25, h26, h27, h28, h29, h30, h31⟩; go_simp
  refine obe_fresh (by rfl) ?_ ?_
  · clear k5_b2_0 g5_b2_0 k5_b2_1 g5_b2_1 k5_b2_2 g5_b2_2 k5_b2_3 g5_b2_3 k5_b3_0 g5_b3_0 k5_b3_1 g5_b3_1 k5_b3_2 g5_b3_2 k5_b3_3 g5_b3_3 k5_g5_0 g5_g5_0 k5_g5_1 g5_g5_1 k5_g5_2 g5_g5_2 k5_g5_3 g5_g5_3 k5_g6_0 g5_g6_0 k5_g6_1 g5_g6_1 k5_g6_2 g5_g6_2 k5_g6_3 g5_g6_3 B5 z5; intro f hf; clear hf; rintro w' ⟨h0, h1, h2, h3, h4, h5, h6, h7, h8, h9, h10, h11, h12, h13, h14, h15, h16, h17, h18, h19, h20, h21, h22, h23, h24, h25, h26, h27, h28, h29, h30, h31⟩; go_simp
  refine obe_nil ?_
  rintro w6 ⟨h0, h1, h2, h3, h4, h5, h6, h7, h8, h9, h10, h11, h12, h13, h14, h15, h16, h17, h18, h19, h20, h21, h22, h23, h24, h25, h26, h27, h28, h29, h30, h31⟩ hb6 hF
  (try simp only [List.nil_append, List.append_nil, List.cons_append] at hF)
  simp only [puts, putD, Act.put, List.setIfInBounds_toArray, List.set_cons_zero, List.set_cons_succ]
  have lg7 : w5.heap.size ≤ gg 9 := hF.1.1
  have ug7 : gg 9 < w6.heap.size := hF.1.2.1
  have pg7 : w6.heap[gg 9]? = some (.cells #[.int .u8 0, .int .u8 0, .int .u8 0, .int .u8 0] 29) := hF.1.2.2
  have ng7_g8 : ¬ gg 9 = gg 10 := hF.2.1 (10, .cells #[.int .u8 0, .int .u8 0, .int .u8 0, .int .u8 0] 29) (by simp)
  have ng7_g9 : ¬ gg 9 = gg 11 := hF.2.1 (11, .cells #[.int .u8 0, .int .u8 0, .int .u8 0, .int .u8 0] 29) (by simp)
  have lg8 : w5.heap.size ≤ gg 10 := hF.2.2.1.1
  have ug8 : gg 10 < w6.heap.size := hF.2.2.1.2.1
  have pg8 : w6.heap[gg 10]? = some (.cells #[.int .u8 0, .int .u8 0, .int .u8 0, .int .u8 0] 29) := hF.2.2.1.2.2
  have ng8_g9 : ¬ gg 10 = gg 11 := hF.2.2.2.1 (11, .cells #[.int .u8 0, .int .u8 0, .int .u8 0, .int .u8 0] 29) (by simp)
  have lg9 : w5.heap.size ≤ gg 11 := hF.2.2.2.2.1.1
  have ug9 : gg 11 < w6.heap.size := hF.2.2.2.2.1.2.1
  have pg9 : w6.heap[gg 11]? = some (.cells #[.int .u8 0, .int .u8 0, .int .u8 0, .int .u8 0] 29) := hF.2.2.2.2.1.2.2
  clear hF
  obtain ⟨g7, eg7⟩ : ∃ x, gg 9 = x := ⟨_, rfl⟩
  rw [eg7] at lg7 ug7 pg7 ng7_g8 ng7_g9 ⊢
  clear eg7
  obtain ⟨g8, eg8⟩ : ∃ x, gg 10 = x := ⟨_, rfl⟩
  rw [eg8] at lg8 ug8 pg8 ng7_g8 ng8_g9 ⊢
  clear eg8
  obtain ⟨g9, eg9⟩ : ∃ x, gg 11 = x := ⟨_, rfl⟩
  rw [eg9] at lg9 ug9 pg9 ng7_g9 ng8_g9 ⊢
  clear eg9
  clear gg
  have k6_b2_0 := bcs hb6 k5_b2_0
  have g6_b2_0 := bfs hb6 k5_b2_0 g5_b2_0
  have k6_b2_1 := bcs hb6 k5_b2_1
  have g6_b2_1 := bfs hb6 k5_b2_1 g5_b2_1
  have k6_b2_2 := bcs hb6 k5_b2_2
  have g6_b2_2 := bfs hb6 k5_b2_2 g5_b2_2
  have k6_b2_3 := bcs hb6 k5_b2_3
  have g6_b2_3 := bfs hb6 k5_b2_3 g5_b2_3
  have k6_b3_0 := bcs hb6 k5_b3_0
  have g6_b3_0 := bfs hb6 k5_b3_0 g5_b3_0
  have k6_b3_1 := bcs hb6 k5_b3_1
  have g6_b3_1 := bfs hb6 k5_b3_1 g5_b3_1
  have k6_b3_2 := bcs hb6 k5_b3_2
  have g6_b3_2 := bfs hb6 k5_b3_2 g5_b3_2
  have k6_b3_3 := bcs hb6 k5_b3_3
  have g6_b3_3 := bfs hb6 k5_b3_3 g5_b3_3
  have k6_g5_0 := bcs hb6 k5_g5_0
  have g6_g5_0 := bfs hb6 k5_g5_0 g5_g5_0
  have k6_g5_1 := bcs hb6 k5_g5_1
  have g6_g5_1 := bfs hb6 k5_g5_1 g5_g5_1
  have k6_g5_2 := bcs hb6 k5_g5_2
  have g6_g5_2 := bfs hb6 k5_g5_2 g5_g5_2
  have k6_g5_3 := bcs hb6 k5_g5_3
  have g6_g5_3 := bfs hb6 k5_g5_3 g5_g5_3
  have k6_g6_0 := bcs hb6 k5_g6_0
  have g6_g6_0 := bfs hb6 k5_g6_0 g5_g6_0
  have k6_g6_1 := bcs hb6 k5_g6_1
  have g6_g6_1 := bfs hb6 k5_g6_1 g5_g6_1
  have k6_g6_2 := bcs hb6 k5_g6_2
  have g6_g6_2 := bfs hb6 k5_g6_2 g5_g6_2
  have k6_g6_3 := bcs hb6 k5_g6_3
  have g6_g6_3 := bfs hb6 k5_g6_3 g5_g6_3
  clear h0 h1 h2 h3 h4 h5 h6 h7 h8 h9 h10 h11 h12 h13 h14 h15 h16 h17 h18 h19 h20 h21 h22 h23 h24 h25 h26 h27 h28 h29 h30 h31
  have B6 := bel_step B5 hb6
  have z6 := Nat.le_trans z5 hb6.size
  have mg7 : w.heap.size ≤ g7 := by omega
  have ng7_b2 : ¬ g7 = w.heap.size := by omega
  have nb2_g7 : ¬ w.heap.size = g7 := by omega
  have ng7_b3 : ¬ g7 = w.heap.size + 1 := by omega
  have nb3_g7 : ¬ w.heap.size + 1 = g7 := by omega
  have tg5 : g5 < w5.heap.size := qlt k5_g5_0
  have ng7_g5 : ¬ g7 = g5 := by omega
  have ng5_g7 : ¬ g5 = g7 := by omega
  have tg6 : g6 < w5.heap.size := qlt k5_g6_0
  have ng7_g6 : ¬ g7 = g6 := by omega
  have ng6_g7 : ¬ g6 = g7 := by omega
  have k6_g7_0 : w6.cell? ⟨g7, 0, none⟩ = some (.int .u8 0) := cob pg7 0 rfl
  have g6_g7_0 : w6.frozen? ⟨g7, 0, none⟩ = false := fob pg7 0
  have k6_g7_1 : w6.cell? ⟨g7, 1, none⟩ = some (.int .u8 0) := cob pg7 1 rfl
  have g6_g7_1 : w6.frozen? ⟨g7, 1, none⟩ = false := fob pg7 1
  have k6_g7_2 : w6.cell? ⟨g7, 2, none⟩ = some (.int .u8 0) := cob pg7 2 rfl
  have g6_g7_2 : w6.frozen? ⟨g7, 2, none⟩ = false := fob pg7 2
  have k6_g7_3 : w6.cell? ⟨g7, 3, none⟩ = some (.int .u8 0) := cob pg7 3 rfl
  have g6_g7_3 : w6.frozen? ⟨g7, 3, none⟩ = false := fob pg7 3
  have mg8 : w.heap.size ≤ g8 := by omega
  have ng8_b2 : ¬ g8 = w.heap.size := by omega
  have nb2_g8 : ¬ w.heap.size = g8 := by omega
  have ng8_b3 : ¬ g8 = w.heap.size + 1 := by omega
  have nb3_g8 : ¬ w.heap.size + 1 = g8 := by omega
  have tg5 : g5 < w5.heap.size := qlt k5_g5_0
  have ng8_g5 : ¬ g8 = g5 := by omega
  have ng5_g8 : ¬ g5 = g8 := by omega
  have tg6 : g6 < w5.heap.size := qlt k5_g6_0
  have ng8_g6 : ¬ g8 = g6 := by omega
  have ng6_g8 : ¬ g6 = g8 := by omega
  have k6_g8_0 : w6.cell? ⟨g8, 0, none⟩ = some (.int .u8 0) := cob pg8 0 rfl
  have g6_g8_0 : w6.frozen? ⟨g8, 0, none⟩ = false := fob pg8 0
  have k6_g8_1 : w6.cell? ⟨g8, 1, none⟩ = some (.int .u8 0) := cob pg8 1 rfl
  have g6_g8_1 : w6.frozen? ⟨g8, 1, none⟩ = false := fob pg8 1
  have k6_g8_2 : w6.cell? ⟨g8, 2, none⟩ = some (.int .u8 0) := cob pg8 2 rfl
  have g6_g8_2 : w6.frozen? ⟨g8, 2, none⟩ = false := fob pg8 2
  have k6_g8_3 : w6.cell? ⟨g8, 3, none⟩ = some (.int .u8 0) := cob pg8 3 rfl
  have g6_g8_3 : w6.frozen? ⟨g8, 3, none⟩ = false := fob pg8 3
  have mg9 : w.heap.size ≤ g9 := by omega
  have ng9_b2 : ¬ g9 = w.heap.size := by omega
  have nb2_g9 : ¬ w.heap.size = g9 := by omega
  have ng9_b3 : ¬ g9 = w.heap.size + 1 := by omega
  have nb3_g9 : ¬ w.heap.size + 1 = g9 := by omega
  have tg5 : g5 < w5.heap.size := qlt k5_g5_0
  have ng9_g5 : ¬ g9 = g5 := by omega
  have ng5_g9 : ¬ g5 = g9 := by omega
  have tg6 : g6 < w5.heap.size := qlt k5_g6_0
  have ng9_g6 : ¬ g9 = g6 := by omega
  have ng6_g9 : ¬ g6 = g9 := by omega
  have k6_g9_0 : w6.cell? ⟨g9, 0, none⟩ = some (.int .u8 0) := cob pg9 0 rfl
  have g6_g9_0 : w6.frozen? ⟨g9, 0, none⟩ = false := fob pg9 0
  have k6_g9_1 : w6.cell? ⟨g9, 1, none⟩ = some (.int .u8 0) := cob pg9 1 rfl
  have g6_g9_1 : w6.frozen? ⟨g9, 1, none⟩ = false := fob pg9 1
  have k6_g9_2 : w6.cell? ⟨g9, 2, none⟩ = some (.int .u8 0) := cob pg9 2 rfl
  have g6_g9_2 : w6.frozen? ⟨g9, 2, none⟩ = false := fob pg9 2
  have k6_g9_3 : w6.cell? ⟨g9, 3, none⟩ = some (.int .u8 0) := cob pg9 3 rfl
  have g6_g9_3 : w6.frozen? ⟨g9, 3, none⟩ = false := fob pg9 3
  have ng8_g7 : ¬ g8 = g7 := fun h => ng7_g8 h.symm
  have ng9_g7 : ¬ g9 = g7 := fun h => ng7_g9 h.symm
  have ng9_g8 : ¬ g9 = g8 := fun h => ng8_g9 h.symm
  clear lg7 ug7 pg7
  clear lg8 ug8 pg8
  clear lg9 ug9 pg9
  clear hb6
  (try clear B5)
  (try clear z5)
  (try clear k5_b2_0)
  (try clear g5_b2_0)
  (try clear k5_b2_1)
  (try clear g5_b2_1)
  (try clear k5_b2_2)
  (try clear g5_b2_2)
  (try clear k5_b2_3)
  (try clear g5_b2_3)
  (try clear k5_b3_0)
  (try clear g5_b3_0)
  (try clear k5_b3_1)
  (try clear g5_b3_1)
  (try clear k5_b3_2)
  (try clear g5_b3_2)
  (try clear k5_b3_3)
  (try clear g5_b3_3)
  (try clear k5_g5_0)
  (try clear g5_g5_0)
  (try clear k5_g5_1)
  (try clear g5_g5_1)
  (try clear k5_g5_2)
  (try clear g5_g5_2)
  (try clear k5_g5_3)
  (try clear g5_g5_3)
  (try clear k5_g6_0)
  (try clear g5_g6_0)
  (try clear k5_g6_1)
  (try clear g5_g6_1)
  (try clear k5_g6_2)
  (try clear g5_g6_2)
  (try clear k5_g6_3)
  (try clear g5_g6_3)
  (try clear q5_b2)
  (try clear x5_b2)
  (try clear y5_b2)
  (try clear q5_b3)
  (try clear x5_b3)
  (try clear y5_b3)
  (try clear q5_g5)
  (try clear x5_g5)
  (try clear y5_g5)
  (try clear q5_g6)
  (try clear x5_g6)
  (try clear y5_g6)
  have q6_b2 : w.heap.size < w6.heap.size := qlt k6_b2_0
  have x6_b2 : ¬ w.heap.size = w6.heap.size := qne k6_b2_0
  have y6_b2 : ¬ w6.heap.size = w.heap.size := fun h => qne k6_b2_0 h.symm
  have q6_b3 : w.heap.size + 1 < w6.heap.size := qlt k6_b3_0
  have x6_b3 : ¬ w.heap.size + 1 = w6.heap.size := qne k6_b3_0
  have y6_b3 : ¬ w6.heap.size = w.heap.size + 1 := fun h => qne k6_b3_0 h.symm
  have q6_g5 : g5 < w6.heap.size := qlt k6_g5_0
  have x6_g5 : ¬ g5 = w6.heap.size := qne k6_g5_0
  have y6_g5 : ¬ w6.heap.size = g5 := fun h => qne k6_g5_0 h.symm
  have q6_g6 : g6 < w6.heap.size := qlt k6_g6_0
  have x6_g6 : ¬ g6 = w6.heap.size := qne k6_g6_0
  have y6_g6 : ¬ w6.heap.size = g6 := fun h => qne k6_g6_0 h.symm
  have q6_g7 : g7 < w6.heap.size := qlt k6_g7_0
  have x6_g7 : ¬ g7 = w6.heap.size := qne k6_g7_0
  have y6_g7 : ¬ w6.heap.size = g7 := fun h => qne k6_g7_0 h.symm
  have q6_g8 : g8 < w6.heap.size := qlt k6_g8_0
  have x6_g8 : ¬ g8 = w6.heap.size := qne k6_g8_0
  have y6_g8 : ¬ w6.heap.size = g8 := fun h => qne k6_g8_0 h.symm
  have q6_g9 : g9 < w6.heap.size := qlt k6_g9_0
  have x6_g9 : ¬ g9 = w6.heap.size := qne k6_g9_0
  have y6_g9 : ¬ w6.heap.size = g9 := fun h => qne k6_g9_0 h.symm
  go_wp2
  refine wp_region_env (fun w' => w'.cell? ⟨w.heap.size, 0, none⟩ = some (.int .u8 r) ∧ w'.frozen? ⟨w.heap.size, 0, none⟩ = false ∧ w'.cell? ⟨w.heap.size, 1, none⟩ = some (.int .u8 g) ∧ w'.frozen? ⟨w.heap.size, 1, none⟩ = false ∧ w'.cell? ⟨w.heap.size, 2, none⟩ = some (.int .u8 b) ∧ w'.frozen? ⟨w.heap.size, 2, none⟩ = false ∧ w'.cell? ⟨w.heap.size, 3, none⟩ = some (.int .u8 a) ∧ w'.frozen? ⟨w.heap.size, 3, none⟩ = false ∧ w'.cell? ⟨w.heap.size + 1, 0, none⟩ = some (.int .u8 s) ∧ w'.frozen? ⟨w.heap.size + 1, 0, none⟩ = false ∧ w'.cell? ⟨w.heap.size + 1, 1, none⟩ = some (.int .u8 t) ∧ w'.frozen? ⟨w.heap.size + 1, 1, none⟩ = false ∧ w'.cell? ⟨w.heap.size + 1, 2, none⟩ = some (.int .u8 u) ∧ w'.frozen? ⟨w.heap.size + 1, 2, none⟩ = false ∧ w'.cell? ⟨w.heap.size + 1, 3, none⟩ = some (.int .u8 255) ∧ w'.frozen? ⟨w.heap.size + 1, 3, none⟩ = false ∧ w'.cell? ⟨g5, 0, none⟩ = some (.int .u8 cr) ∧ w'.frozen? ⟨g5, 0, none⟩ = false ∧ w'.cell? ⟨g5, 1, none⟩ = some (.int .u8 cg) ∧ w'.frozen? ⟨g5, 1, none⟩ = false ∧ w'.cell? ⟨g5, 2, none⟩ = some (.int .u8 cb) ∧ w'.frozen? ⟨g5, 2, none⟩ = false ∧ w'.cell? ⟨g5, 3, none⟩ = some (.int .u8 a) ∧ w'.frozen? ⟨g5, 3, none⟩ = false ∧ w'.cell? ⟨g6, 0, none⟩ = some (.int .u8 cs) ∧ w'.frozen? ⟨g6, 0, none⟩ = false ∧ w'.cell? ⟨g6, 1, none⟩ = some (.int .u8 ct) ∧ w'.frozen? ⟨g6, 1, none⟩ = false ∧ w'.cell? ⟨g6, 2, none⟩ = some (.int .u8 cu) ∧ w'.frozen? ⟨g6, 2, none⟩ = false ∧ w'.cell? ⟨g6, 3, none⟩ = some (.int .u8 255) ∧ w'.frozen? ⟨g6, 3, none⟩ = false ∧ w'.cell? ⟨g7, 0, none⟩ = some (.int .u8 cr) ∧ w'.frozen? ⟨g7, 0, none⟩ = false ∧ w'.cell? ⟨g7, 1, none⟩ = some (.int .u8 cg) ∧ w'.frozen? ⟨g7, 1, none⟩ = false ∧ w'.cell? ⟨g7, 2, none⟩ = some (.int .u8 cb) ∧ w'.frozen? ⟨g7, 2, none⟩ = false ∧ w'.cell? ⟨g7, 3, none⟩ = some (.int .u8 a) ∧ w'.frozen? ⟨g7, 3, none⟩ = false ∧ w'.cell? ⟨g8, 0, none⟩ = some (.int .u8 0) ∧ w'.frozen? ⟨g8, 0, none⟩ = false ∧ w'.cell? ⟨g8, 1, none⟩ = some (.int .u8 0) ∧ w'.frozen? ⟨g8, 1, none⟩ = false ∧ w'.cell? ⟨g8, 2, none⟩ = some (.int .u8 0) ∧ w'.frozen? ⟨g8, 2, none⟩ = false ∧ w'.cell? ⟨g8, 3, none⟩ = some (.int .u8 0) ∧ w'.frozen? ⟨g8, 3, none⟩ = false ∧ w'.cell? ⟨g9, 0, none⟩ = some (.int .u8 p0) ∧ w'.frozen? ⟨g9, 0, none⟩ = false ∧ w'.cell? ⟨g9, 1, none⟩ = some (.int .u8 p1) ∧ w'.frozen? ⟨g9, 1, none⟩ = false ∧ w'.cell? ⟨g9, 2, none⟩ = some (.int .u8 p2) ∧ w'.frozen? ⟨g9, 2, none⟩ = false ∧ w'.cell? ⟨g9, 3, none⟩ = some (.int .u8 p3) ∧ w'.frozen? ⟨g9, 3, none⟩ = false) (fun W => W.cell? ⟨w.heap.size, 0, none⟩ = some (.int .u8 r) ∧ W.frozen? ⟨w.heap.size, 0, none⟩ = false ∧ W.cell? ⟨w.heap.size, 1, none⟩ = some (.int .u8 g) ∧ W.frozen? ⟨w.heap.size, 1, none⟩ = false ∧ W.cell? ⟨w.heap.size, 2, none⟩ = some (.int .u8 b) ∧ W.frozen? ⟨w.heap.size, 2, none⟩ = false ∧ W.cell? ⟨w.heap.size, 3, none⟩ = some (.int .u8 a) ∧ W.frozen? ⟨w.heap.size, 3, none⟩ = false ∧ W.cell? ⟨w.heap.size + 1, 0, none⟩ = some (.int .u8 s) ∧ W.frozen? ⟨w.heap.size + 1, 0, none⟩ = false ∧ W.cell? ⟨w.heap.size + 1, 1, none⟩ = some (.int .u8 t) ∧ W.frozen? ⟨w.heap.size + 1, 1, none⟩ = false ∧ W.cell? ⟨w.heap.size + 1, 2, none⟩ = some (.int .u8 u) ∧ W.frozen? ⟨w.heap.size + 1, 2, none⟩ = false ∧ W.cell? ⟨w.heap.size + 1, 3, none⟩ = some (.int .u8 255) ∧ W.frozen? ⟨w.heap.size + 1, 3, none⟩ = false ∧ W.cell? ⟨g5, 0, none⟩ = some (.int .u8 cr) ∧ W.frozen? ⟨g5, 0, none⟩ = false ∧ W.cell? ⟨g5, 1, none⟩ = some (.int .u8 cg) ∧ W.frozen? ⟨g5, 1, none⟩ = false ∧ W.cell? ⟨g5, 2, none⟩ = some (.int .u8 cb) ∧ W.frozen? ⟨g5, 2, none⟩ = false ∧ W.cell? ⟨g5, 3, none⟩ = some (.int .u8 a) ∧ W.frozen? ⟨g5, 3, none⟩ = false ∧ W.cell? ⟨g6, 0, none⟩ = some (.int .u8 cs) ∧ W.frozen? ⟨g6, 0, none⟩ = false ∧ W.cell? ⟨g6, 1, none⟩ = some (.int .u8 ct) ∧ W.frozen? ⟨g6, 1, none⟩ = false ∧ W.cell? ⟨g6, 2, none⟩ = some (.int .u8 cu) ∧ W.frozen? ⟨g6, 2, none⟩ = false ∧ W.cell? ⟨g6, 3, none⟩ = some (.int .u8 255) ∧ W.frozen? ⟨g6, 3, none⟩ = false ∧ W.cell? ⟨g7, 0, none⟩ = some (.int .u8 cr) ∧ W.frozen? ⟨g7, 0, none⟩ = false ∧ W.cell? ⟨g7, 1, none⟩ = some (.int .u8 cg) ∧ W.frozen? ⟨g7, 1, none⟩ = false ∧ W.cell? ⟨g7, 2, none⟩ = some (.int .u8 cb) ∧ W.frozen? ⟨g7, 2, none⟩ = false ∧ W.cell? ⟨g7, 3, none⟩ = some (.int .u8 a) ∧ W.frozen? ⟨g7, 3, none⟩ = false ∧ W.cell? ⟨g8, 0, none⟩ = some (.int .u8 0) ∧ W.frozen? ⟨g8, 0, none⟩ = false ∧ W.cell? ⟨g8, 1, none⟩ = some (.int .u8 0) ∧ W.frozen? ⟨g8, 1, none⟩ = false ∧ W.cell? ⟨g8, 2, none⟩ = some (.int .u8 0) ∧ W.frozen? ⟨g8, 2, none⟩ = false ∧ W.cell? ⟨g8, 3, none⟩ = some (.int .u8 0) ∧ W.frozen? ⟨g8, 3, none⟩ = false ∧ W.cell? ⟨g9, 0, none⟩ = some (.int .u8 p0) ∧ W.frozen? ⟨g9, 0, none⟩ = false ∧ W.cell? ⟨g9, 1, none⟩ = some (.int .u8 p1) ∧ W.frozen? ⟨g9, 1, none⟩ = false ∧ W.cell? ⟨g9, 2, none⟩ = some (.int .u8 p2) ∧ W.frozen? ⟨g9, 2, none⟩ = false ∧ W.cell? ⟨g9, 3, none⟩ = some (.int .u8 p3) ∧ W.frozen? ⟨g9, 3, none⟩ = false ∧ Below w.heap.size w W ∧ w.heap.size + 1 + 1 ≤ W.heap.size) 47 158 [.val (.int .i64 0), .val (.bool false), .val (.bool false), .val (.int .i64 0), .val (.bool false), .val (.bool false), .val (.bool false), .val (.pointer (some ⟨g7, 3, none⟩)), .val (.int .u8 a), .val (.pointer (some ⟨g5, 3, none⟩)), .val (.int .u8 a), .val (.bool false), .val (.bool false), .val (.bool false), .val (.pointer (some ⟨g8, 3, none⟩)), .val (.int .u8 0), .val (.pointer (some ⟨g5, 3, none⟩)), .val (.int .u8 a), .val (.bool false), .val (.bool false), .val (.bool false), .val (.agg #[.int .u8 p0, .int .u8 p1, .int .u8 p2, .int .u8 p3]), .val (.agg #[.int .u8 s, .int .u8 t, .int .u8 u, .int .u8 255]), .val (.agg #[.int .u8 r, .int .u8 g, .int .u8 b, .int .u8 a]), .call 15 #[.int .i64 8, .agg #[.int .u8 s, .int .u8 t, .int .u8 u, .int .u8 255], .agg #[.int .u8 r, .int .u8 g, .int .u8 b, .int .u8 a]] (.agg #[.int .u8 p0, .int .u8 p1, .int .u8 p2, .int .u8 p3]), .val (.bool false), .val (.bool false), .val (.bool false), .val (.pointer (some ⟨g9, 3, none⟩)), .val (.int .u8 p3), .val (.pointer (some ⟨g5, 3, none⟩)), .val (.int .u8 a), .val (.pointer (some ⟨g6, 3, none⟩)), .val (.int .u8 255), .val (.int .u8 mA), .val (.bool false), .val (.bool false), .val (.bool false), .val (.pointer (some ⟨g9, 0, none⟩)), .val (.int .u8 p0), .val (.pointer (some ⟨g5, 0, none⟩)), .val (.int .u8 cr), .val (.pointer (some ⟨g6, 0, none⟩)), .val (.int .u8 cs), .val (.int .u8 mR), .val (.bool false), .val (.bool false)] (by kernel_rfl) (by kernel_rfl) rfl (by kernel_rfl) (by rintro w1 w2 ⟨h0, h1, h2, h3, h4, h5, h6, h7, h8, h9, h10, h11, h12, h13, h14, h15, h16, h17, h18, h19, h20, h21, h22, h23, h24, h25, h26, h27, h28, h29, h30, h31, h32, h33, h34, h35, h36, h37, h38, h39, h40, h41, h42, h43, h44, h45, h46, h47, h48, h49, h50, h51, h52, h53, h54, h55⟩ hb; exact ⟨bcs hb h0, bfs hb h0 h1, bcs hb h2, bfs hb h2 h3, bcs hb h4, bfs hb h4 h5, bcs hb h6, bfs hb h6 h7, bcs hb h8, bfs hb h8 h9, bcs hb h10, bfs hb h10 h11, bcs hb h12, bfs hb h12 h13, bcs hb h14, bfs hb h14 h15, bcs hb h16, bfs hb h16 h17, bcs hb h18, bfs hb h18 h19, bcs hb h20, bfs hb h20 h21, bcs hb h22, bfs hb h22 h23, bcs hb h24, bfs hb h24 h25, bcs hb h26, bfs hb h26 h27, bcs hb h28, bfs hb h28 h29, bcs hb h30, bfs hb h30 h31, bcs hb h32, bfs hb h32 h33, bcs hb h34, bfs hb h34 h35, bcs hb h36, bfs hb h36 h37, bcs hb h38, bfs hb h38 h39, bcs hb h40, bfs hb h40 h41, bcs hb h42, bfs hb h42 h43, bcs hb h44, bfs hb h44 h45, bcs hb h46, bfs hb h46 h47, bcs hb h48, bfs hb h48 h49, bcs hb h50, bfs hb h50 h51, bcs hb h52, bfs hb h52 h53, bcs hb h54, bfs hb h54 h55⟩) ⟨by first | with_reducible assumption | go_simp, by first | with_reducible assumption | go_simp, by first | with_reducible assumption | go_simp, by first | with_reducible assumption | go_simp, by first | with_reducible assumption | go_simp, by first | with_reducible assumption | go_simp, by first | with_reducible assumption | go_simp, by first | with_reducible assumption | go_simp, by first | with_reducible assumption | go_simp, by first | with_reducible assumption | go_simp, by first | with_reducible assumption | go_simp, by first | with_reducible assumption | go_simp, by first | with_reducible assumption | go_simp, by first | with_reducible assumption | go_simp, by first | with_reducible assumption | go_simp, by first | with_reducible assumption | go_simp, by first | with_reducible assumption | go_simp, by first | with_reducible assumption | go_simp, by first | with_reducible assumption | go_simp, by first | with_reducible assumption | go_simp, by first | with_reducible assumption | go_simp, by first | with_reducible assumption | go_simp, by first | with_reducible assumption | go_simp, by first | with_reducible assumption | go_simp, by first | with_reducible assumption | go_simp, by first | with_reducible assumption | go_simp, by first | with_reducible assumption | go_simp, by first | with_reducible assumption | go_simp, by first | with_reducible assumption | go_simp, by first | with_reducible assumption | go_simp, by first | with_reducible assumption | go_simp, by first | with_reducible assumption | go_simp, by first | with_reducible assumption | go_simp, by first | with_reducible assumption | go_simp, by first | with_reducible assumption | go_simp, by first | with_reducible assumption | go_simp, by first | with_reducible assumption | go_simp, by first | with_reducible assumption | go_simp, by first | with_reducible assumption | go_simp, by first | with_reducible assumption | go_simp, by first | with_reducible assumption | go_simp, by first | with_reducible assumption | go_simp, by first | with_reducible assumption | go_simp, by first | with_reducible assumption | go_simp, by first | with_reducible assumption | go_simp, by first | with_reducible assumption | go_simp, by first | with_reducible assumption | go_simp, by first | with_reducible assumption | go_simp, by first | with_reducible assumption | go_simp, by first | with_reducible assumption | go_simp, by first | with_reducible assumption | go_simp, by first | with_reducible assumption | go_simp, by first | with_reducible assumption | go_simp, by first | with_reducible assumption | go_simp, by first | with_reducible assumption | go_simp, by first | with_reducible assumption | go_simp, by repeat (first | with_reducible exact Below.refl _ _ | with_reducible exact B6 | with_reducible apply below_drewN | with_reducible apply Below.drew | (with_reducible refine Below.alloc ?_ (by first | (simp; done) | (simp; omega) | omega) _) | (with_reducible refine Below.setCell ?_ (by first | (simp; done) | (simp; omega) | omega) _)), by first | with_reducible assumption | (simp; done) | (simp; omega)⟩ ?_ ?_
  · rintro W ⟨k7_b2_0, g7_b2_0, k7_b2_1, g7_b2_1, k7_b2_2, g7_b2_2, k7_b2_3, g7_b2_3, k7_b3_0, g7_b3_0, k7_b3_1, g7_b3_1, k7_b3_2, g7_b3_2, k7_b3_3, g7_b3_3, k7_g5_0, g7_g5_0, k7_g5_1, g7_g5_1, k7_g5_2, g7_g5_2, k7_g5_3, g7_g5_3, k7_g6_0, g7_g6_0, k7_g6_1, g7_g6_1, k7_g6_2, g7_g6_2, k7_g6_3, g7_g6_3, k7_g7_0, g7_g7_0, k7_g7_1, g7_g7_1, k7_g7_2, g7_g7_2, k7_g7_3, g7_g7_3, k7_g8_0, g7_g8_0, k7_g8_1, g7_g8_1, k7_g8_2, g7_g8_2, k7_g8_3, g7_g8_3, k7_g9_0, g7_g9_0, k7_g9_1, g7_g9_1, k7_g9_2, g7_g9_2, k7_g9_3, g7_g9_3, B7, z7⟩; exact ⟨k7_b2_0, g7_b2_0, k7_b2_1, g7_b2_1, k7_b2_2, g7_b2_2, k7_b2_3, g7_b2_3, k7_b3_0, g7_b3_0, k7_b3_1, g7_b3_1, k7_b3_2, g7_b3_2, k7_b3_3, g7_b3_3, k7_g5_0, g7_g5_0, k7_g5_1, g7_g5_1, k7_g5_2, g7_g5_2, k7_g5_3, g7_g5_3, k7_g6_0, g7_g6_0, k7_g6_1, g7_g6_1, k7_g6_2, g7_g6_2, k7_g6_3, g7_g6_3, k7_g7_0, g7_g7_0, k7_g7_1, g7_g7_1, k7_g7_2, g7_g7_2, k7_g7_3, g7_g7_3, k7_g8_0, g7_g8_0, k7_g8_1, g7_g8_1, k7_g8_2, g7_g8_2, k7_g8_3, g7_g8_3, k7_g9_0, g7_g9_0, k7_g9_1, g7_g9_1, k7_g9_2, g7_g9_2, k7_g9_3, g7_g9_3⟩
  (try clear B6)
  (try clear z6)
  (try clear k6_b2_0)
  (try clear g6_b2_0)
  (try clear k6_b2_1)
  (try clear g6_b2_1)
  (try clear k6_b2_2)
  (try clear g6_b2_2)
  (try clear k6_b2_3)
  (try clear g6_b2_3)
  (try clear k6_b3_0)
  (try clear g6_b3_0)
  (try clear k6_b3_1)
  (try clear g6_b3_1)
  (try clear k6_b3_2)
  (try clear g6_b3_2)
  (try clear k6_b3_3)
  (try clear g6_b3_3)
  (try clear k6_g5_0)
  (try clear g6_g5_0)
  (try clear k6_g5_1)
  (try clear g6_g5_1)
  (try clear k6_g5_2)
  (try clear g6_g5_2)
  (try clear k6_g5_3)
  (try clear g6_g5_3)
  (try clear k6_g6_0)
  (try clear g6_g6_0)
  (try clear k6_g6_1)
  (try clear g6_g6_1)
  (try clear k6_g6_2)
  (try clear g6_g6_2)
  (try clear k6_g6_3)
  (try clear g6_g6_3)
  (try clear k6_g7_0)
  (try clear g6_g7_0)
  (try clear k6_g7_1)
  (try clear g6_g7_1)
  (try clear k6_g7_2)
  (try clear g6_g7_2)
  (try clear k6_g7_3)
  (try clear g6_g7_3)
  (try clear k6_g8_0)
  (try clear g6_g8_0)
  (try clear k6_g8_1)
  (try clear g6_g8_1)
  (try clear k6_g8_2)
  (try clear g6_g8_2)
  (try clear k6_g8_3)
  (try clear g6_g8_3)
  (try clear k6_g9_0)
  (try clear g6_g9_0)
  (try clear k6_g9_1)
  (try clear g6_g9_1)
  (try clear k6_g9_2)
  (try clear g6_g9_2)
  (try clear k6_g9_3)
  (try clear g6_g9_3)
  (try clear q6_b2)
  (try clear x6_b2)
  (try clear y6_b2)
  (try clear q6_b3)
  (try clear x6_b3)
  (try clear y6_b3)
  (try clear q6_g5)
  (try clear x6_g5)
  (try clear y6_g5)
  (try clear q6_g6)
  (try clear x6_g6)
  (try clear y6_g6)
  (try clear q6_g7)
  (try clear x6_g7)
  (try clear y6_g7)
  (try clear q6_g8)
  (try clear x6_g8)
  (try clear y6_g8)
  (try clear q6_g9)
  (try clear x6_g9)
  (try clear y6_g9)
  rintro w7 ⟨k7_b2_0, g7_b2_0, k7_b2_1, g7_b2_1, k7_b2_2, g7_b2_2, k7_b2_3, g7_b2_3, k7_b3_0, g7_b3_0, k7_b3_1, g7_b3_1, k7_b3_2, g7_b3_2, k7_b3_3, g7_b3_3, k7_g5_0, g7_g5_0, k7_g5_1, g7_g5_1, k7_g5_2, g7_g5_2, k7_g5_3, g7_g5_3, k7_g6_0, g7_g6_0, k7_g6_1, g7_g6_1, k7_g6_2, g7_g6_2, k7_g6_3, g7_g6_3, k7_g7_0, g7_g7_0, k7_g7_1, g7_g7_1, k7_g7_2, g7_g7_2, k7_g7_3, g7_g7_3, k7_g8_0, g7_g8_0, k7_g8_1, g7_g8_1, k7_g8_2, g7_g8_2, k7_g8_3, g7_g8_3, k7_g9_0, g7_g9_0, k7_g9_1, g7_g9_1, k7_g9_2, g7_g9_2, k7_g9_3, g7_g9_3, B7, z7⟩ gg
  simp only [List.take_succ_cons, List.take_zero, List.drop_succ_cons, List.drop_zero, List.cons_append, List.nil_append, List.append_nil]
  refine obe_val (by rfl) ?_ ?_
  · clear k7_b2_0 g7_b2_0 k7_b2_1 g7_b2_1 k7_b2_2 g7_b2_2 k7_b2_3 g7_b2_3 k7_b3_0 g7_b3_0 k7_b3_1 g7_b3_1 k7_b3_2 g7_b3_2 k7_b3_3 g7_b3_3 k7_g5_0 g7_g5_0 k7_g5_1 g7_g5_1 k7_g5_2 g7_g5_2 k7_g5_3 g7_g5_3 k7_g6_0 g7_g6_0 k7_g6_1 g7_g6_1 k7_g6_2 g7_g6_2 k7_g6_3 g7_g6_3 k7_g7_0 g7_g7_0 k7_g7_1 g7_g7_1 k7_g7_2 g7_g7_2 k7_g7_3 g7_g7_3 k7_g8_0 g7_g8_0 k7_g8_1 g7_g8_1 k7_g8_2 g7_g8_2 k7_g8_3 g7_g8_3 k7_g9_0 g7_g9_0 k7_g9_1 g7_g9_1 k7_g9_2 g7_g9_2 k7_g9_3 g7_g9_3 B7 z7; intro f hf; have u10 : f 10 = (.int .i64 0) := (by rw [← hf]; rfl); clear hf; rintro w' ⟨h0, h1, h2, h3, h4, h5, h6, h7, h8, h9, h10, h11, h12, h13, h14, h15, h16, h17, h18, h19, h20, h21, h22, h23, h24, h25, h26, h27, h28, h29, h30, h31, h32, h33, h34, h35, h36, h37, h38, h39, h40, h41, h42, h43, h44, h45, h46, h47, h48, h49, h50, h51, h52, h53, h54, h55⟩; go_simp; try exact IntWalk.i64_in _ (by omega)
  refine obe_val (by rfl) ?_ ?_
  · clear k7_b2_0 g7_b2_0 k7_b2_1 g7_b2_1 k7_b2_2 g7_b2_2 k7_b2_3 g7_b2_3 k7_b3_0 g7_b3_0 k7_b3_1 g7_b3_1 k7_b3_2 g7_b3_2 k7_b3_3 g7_b3_3 k7_g5_0 g7_g5_0 k7_g5_1 g7_g5_1 k7_g5_2 g7_g5_2 k7_g5_3 g7_g5_3 k7_g6_0 g7_g6_0 k7_g6_1 g7_g6_1 k7_g6_2 g7_g6_2 k7_g6_3 g7_g6_3 k7_g7_0 g7_g7_0 k7_g7_1 g7_g7_1 k7_g7_2 g7_g7_2 k7_g7_3 g7_g7_3 k7_g8_0 g7_g8_0 k7_g8_1 g7_g8_1 k7_g8_2 g7_g8_2 k7_g8_3 g7_g8_3 k7_g9_0 g7_g9_0 k7_g9_1 g7_g9_1 k7_g9_2 g7_g9_2 k7_g9_3 g7_g9_3 B7 z7; intro f hf; have u74 : f 74 = (.int .i64 0) := (by rw [← hf]; rfl); clear hf; rintro w' ⟨h0, h1, h2, h3, h4, h5, h6, h7, h8, h9, h10, h11, h12, h13, h14, h15, h16, h17, h18, h19, h20, h21, h22, h23, h24, h25, h26, h27, h28, h29, h30, h31, h32, h33, h34, h35, h36, h37, h38, h39, h40, h41, h42, h43, h44, h45, h46, h47, h48, h49, h50, h51, h52, h53, h54, h55⟩; go_simp; try exact IntWalk.i64_in _ (by omega)
  refine obe_val (by rfl) ?_ ?_
  · clear k7_b2_0 g7_b2_0 k7_b2_1 g7_b2_1 k7_b2_2 g7_b2_2 k7_b2_3 g7_b2_3 k7_b3_0 g7_b3_0 k7_b3_1 g7_b3_1 k7_b3_2 g7_b3_2 k7_b3_3 g7_b3_3 k7_g5_0 g7_g5_0 k7_g5_1 g7_g5_1 k7_g5_2 g7_g5_2 k7_g5_3 g7_g5_3 k7_g6_0 g7_g6_0 k7_g6_1 g7_g6_1 k7_g6_2 g7_g6_2 k7_g6_3 g7_g6_3 k7_g7_0 g7_g7_0 k7_g7_1 g7_g7_1 k7_g7_2 g7_g7_2 k7_g7_3 g7_g7_3 k7_g8_0 g7_g8_0 k7_g8_1 g7_g8_1 k7_g8_2 g7_g8_2 k7_g8_3 g7_g8_3 k7_g9_0 g7_g9_0 k7_g9_1 g7_g9_1 k7_g9_2 g7_g9_2 k7_g9_3 g7_g9_3 B7 z7; intro f hf; have u75 : f 75 = (.bool false) := (by rw [← hf]; rfl); clear hf; rintro w' ⟨h0, h1, h2, h3, h4, h5, h6, h7, h8, h9, h10, h11, h12, h13, h14, h15, h16, h17, h18, h19, h20, h21, h22, h23, h24, h25, h26, h27, h28, h29, h30, h31, h32, h33, h34, h35, h36, h37, h38, h39, h40, h41, h42, h43, h44, h45, h46, h47, h48, h49, h50, h51, h52, h53, h54, h55⟩; go_simp; try exact IntWalk.i64_in _ (by omega)
  refine obe_val (by rfl) ?_ ?_
  · clear k7_b2_0 g7_b2_0 k7_b2_1 g7_b2_1 k7_b2_2 g7_b2_2 k7_b2_3 g7_b2_3 k7_b3_0 g7_b3_0 k7_b3_1 g7_b3_1 k7_b3_2 g7_b3_2 k7_b3_3 g7_b3_3 k7_g5_0 g7_g5_0 k7_g5_1 g7_g5_1 k7_g5_2 g7_g5_2 k7_g5_3 g7_g5_3 k7_g6_0 g7_g6_0 k7_g6_1 g7_g6_1 k7_g6_2 g7_g6_2 k7_g6_3 g7_g6_3 k7_g7_0 g7_g7_0 k7_g7_1 g7_g7_1 k7_g7_2 g7_g7_2 k7_g7_3 g7_g7_3 k7_g8_0 g7_g8_0 k7_g8_1 g7_g8_1 k7_g8_2 g7_g8_2 k7_g8_3 g7_g8_3 k7_g9_0 g7_g9_0 k7_g9_1 g7_g9_1 k7_g9_2 g7_g9_2 k7_g9_3 g7_g9_3 B7 z7; intro f hf; have u10 : f 10 = (.int .i64 0) := (by rw [← hf]; rfl); clear hf; rintro w' ⟨h0, h1, h2, h3, h4, h5, h6, h7, h8, h9, h10, h11, h12, h13, h14, h15, h16, h17, h18, h19, h20, h21, h22, h23, h24, h25, h26, h27, h28, h29, h30, h31, h32, h33, h34, h35, h36, h37, h38, h39, h40, h41, h42, h43, h44, h45, h46, h47, h48, h49, h50, h51, h52, h53, h54, h55⟩; go_simp; try exact IntWalk.i64_in _ (by omega)
  refine obe_val (by rfl) ?_ ?_
  · clear k7_b2_0 g7_b2_0 k7_b2_1 g7_b2_1 k7_b2_2 g7_b2_2 k7_b2_3 g7_b2_3 k7_b3_0 g7_b3_0 k7_b3_1 g7_b3_1 k7_b3_2 g7_b3_2 k7_b3_3 g7_b3_3 k7_g5_0 g7_g5_0 k7_g5_1 g7_g5_1 k7_g5_2 g7_g5_2 k7_g5_3 g7_g5_3 k7_g6_0 g7_g6_0 k7_g6_1 g7_g6_1 k7_g6_2 g7_g6_2 k7_g6_3 g7_g6_3 k7_g7_0 g7_g7_0 k7_g7_1 g7_g7_1 k7_g7_2 g7_g7_2 k7_g7_3 g7_g7_3 k7_g8_0 g7_g8_0 k7_g8_1 g7_g8_1 k7_g8_2 g7_g8_2 k7_g8_3 g7_g8_3 k7_g9_0 g7_g9_0 k7_g9_1 g7_g9_1 k7_g9_2 g7_g9_2 k7_g9_3 g7_g9_3 B7 z7; intro f hf; have u77 : f 77 = (.int .i64 0) := (by rw [← hf]; rfl); clear hf; rintro w' ⟨h0, h1, h2, h3, h4, h5, h6, h7, h8, h9, h10, h11, h12, h13, h14, h15, h16, h17, h18, h19, h20, h21, h22, h23, h24, h25, h26, h27, h28, h29, h30, h31, h32, h33, h34, h35, h36, h37, h38, h39, h40, h41, h42, h43, h44, h45, h46, h47, h48, h49, h50, h51, h52, h53, h54, h55⟩; go_simp; try exact IntWalk.i64_in _ (by omega)
  refine obe_val (by rfl) ?_ ?_
  · clear k7_b2_0 g7_b2_0 k7_b2_1 g7_b2_1 k7_b2_2 g7_b2_2 k7_b2_3 g7_b2_3 k7_b3_0 g7_b3_0 k7_b3_1 g7_b3_1 k7_b3_2 g7_b3_2 k7_b3_3 g7_b3_3 k7_g5_0 g7_g5_0 k7_g5_1 g7_g5_1 k7_g5_2 g7_g5_2 k7_g5_3 g7_g5_3 k7_g6_0 g7_g6_0 k7_g6_1 g7_g6_1 k7_g6_2 g7_g6_2 k7_g6_3 g7_g6_3 k7_g7_0 g7_g7_0 k7_g7_1 g7_g7_1 k7_g7_2 g7_g7_2 k7_g7_3 g7_g7_3 k7_g8_0 g7_g8_0 k7_g8_1 g7_g8_1 k7_g8_2 g7_g8_2 k7_g8_3 g7_g8_3 k7_g9_0 g7_g9_0 k7_g9_1 g7_g9_1 k7_g9_2 g7_g9_2 k7_g9_3 g7_g9_3 B7 z7; intro f hf; have u76 : f 76 = (.bool false) := (by rw [← hf]; rfl); have u78 : f 78 = (.bool false) := (by rw [← hf]; rfl); clear hf; rintro w' ⟨h0, h1, h2, h3, h4, h5, h6, h7, h8, h9, h10, h11, h12, h13, h14, h15, h16, h17, h18, h19, h20, h21, h22, h23, h24, h25, h26, h27, h28, h29, h30, h31, h32, h33, h34, h35, h36, h37, h38, h39, h40, h41, h42, h43, h44, h45, h46, h47, h48, h49, h50, h51, h52, h53, h54, h55⟩; go_simp; try exact IntWalk.i64_in _ (by omega)
  refine obe_val (by rfl) ?_ ?_
  · clear k7_b2_0 g7_b2_0 k7_b2_1 g7_b2_1 k7_b2_2 g7_b2_2 k7_b2_3 g7_b2_3 k7_b3_0 g7_b3_0 k7_b3_1 g7_b3_1 k7_b3_2 g7_b3_2 k7_b3_3 g7_b3_3 k7_g5_0 g7_g5_0 k7_g5_1 g7_g5_1 k7_g5_2 g7_g5_2 k7_g5_3 g7_g5_3 k7_g6_0 g7_g6_0 k7_g6_1 g7_g6_1 k7_g6_2 g7_g6_2 k7_g6_3 g7_g6_3 k7_g7_0 g7_g7_0 k7_g7_1 g7_g7_1 k7_g7_2 g7_g7_2 k7_g7_3 g7_g7_3 k7_g8_0 g7_g8_0 k7_g8_1 g7_g8_1 k7_g8_2 g7_g8_2 k7_g8_3 g7_g8_3 k7_g9_0 g7_g9_0 k7_g9_1 g7_g9_1 k7_g9_2 g7_g9_2 k7_g9_3 g7_g9_3 B7 z7; intro f hf; have u79 : f 79 = (.bool false) := (by rw [← hf]; rfl); clear hf; rintro w' ⟨h0, h1, h2, h3, h4, h5, h6, h7, h8, h9, h10, h11, h12, h13, h14, h15, h16, h17, h18, h19, h20, h21, h22, h23, h24, h25, h26, h27, h28, h29, h30, h31, h32, h33, h34, h35, h36, h37, h38, h39, h40, h41, h42, h43, h44, h45, h46, h47, h48, h49, h50, h51, h52, h53, h54, h55⟩; go_simp; try exact IntWalk.i64_in _ (by omega)
  refine obe_val (by rfl) ?_ ?_
  · clear k7_b2_0 g7_b2_0 k7_b2_1 g7_b2_1 k7_b2_2 g7_b2_2 k7_b2_3 g7_b2_3 k7_b3_0 g7_b3_0 k7_b3_1 g7_b3_1 k7_b3_2 g7_b3_2 k7_b3_3 g7_b3_3 k7_g5_0 g7_g5_0 k7_g5_1 g7_g5_1 k7_g5_2 g7_g5_2 k7_g5_3 g7_g5_3 k7_g6_0 g7_g6_0 k7_g6_1 g7_g6_1 k7_g6_2 g7_g6_2 k7_g6_3 g7_g6_3 k7_g7_0 g7_g7_0 k7_g7_1 g7_g7_1 k7_g7_2 g7_g7_2 k7_g7_3 g7_g7_3 k7_g8_0 g7_g8_0 k7_g8_1 g7_g8_1 k7_g8_2 g7_g8_2 k7_g8_3 g7_g8_3 k7_g9_0 g7_g9_0 k7_g9_1 g7_g9_1 k7_g9_2 g7_g9_2 k7_g9_3 g7_g9_3 B7 z7; intro f hf; have u7 : f 7 = (.pointer (some ⟨g7, 0, none⟩)) := (by rw [← hf]; rfl); clear hf; rintro w' ⟨h0, h1, h2, h3, h4, h5, h6, h7, h8, h9, h10, h11, h12, h13, h14, h15, h16, h17, h18, h19, h20, h21, h22, h23, h24, h25, h26, h27, h28, h29, h30, h31, h32, h33, h34, h35, h36, h37, h38, h39, h40, h41, h42, h43, h44, h45, h46, h47, h48, h49, h50, h51, h52, h53, h54, h55⟩; go_simp; try exact IntWalk.i64_in _ (by omega)
  refine obe_val (by rfl) ?_ ?_
  · clear k7_b2_0 g7_b2_0 k7_b2_1 g7_b2_1 k7_b2_2 g7_b2_2 k7_b2_3 g7_b2_3 k7_b3_0 g7_b3_0 k7_b3_1 g7_b3_1 k7_b3_2 g7_b3_2 k7_b3_3 g7_b3_3 k7_g5_0 g7_g5_0 k7_g5_1 g7_g5_1 k7_g5_2 g7_g5_2 k7_g5_3 g7_g5_3 k7_g6_0 g7_g6_0 k7_g6_1 g7_g6_1 k7_g6_2 g7_g6_2 k7_g6_3 g7_g6_3 k7_g7_0 g7_g7_0 k7_g7_1 g7_g7_1 k7_g7_2 g7_g7_2 k7_g7_3 g7_g7_3 k7_g8_0 g7_g8_0 k7_g8_1 g7_g8_1 k7_g8_2 g7_g8_2 k7_g8_3 g7_g8_3 k7_g9_0 g7_g9_0 k7_g9_1 g7_g9_1 k7_g9_2 g7_g9_2 k7_g9_3 g7_g9_3 B7 z7; intro f hf; have u81 : f 81 = (.pointer (some ⟨g7, 3, none⟩)) := (by rw [← hf]; rfl); clear hf; rintro w' ⟨h0, h1, h2, h3, h4, h5, h6, h7, h8, h9, h10, h11, h12, h13, h14, h15, h16, h17, h18, h19, h20, h21, h22, h23, h24, h25, h26, h27, h28, h29, h30, h31, h32, h33, h34, h35, h36, h37, h38, h39, h40, h41, h42, h43, h44, h45, h46, h47, h48, h49, h50, h51, h52, h53, h54, h55⟩; go_simp; try exact IntWalk.i64_in _ (by omega)
  refine obe_val (by rfl) ?_ ?_
  · clear k7_b2_0 g7_b2_0 k7_b2_1 g7_b2_1 k7_b2_2 g7_b2_2 k7_b2_3 g7_b2_3 k7_b3_0 g7_b3_0 k7_b3_1 g7_b3_1 k7_b3_2 g7_b3_2 k7_b3_3 g7_b3_3 k7_g5_0 g7_g5_0 k7_g5_1 g7_g5_1 k7_g5_2 g7_g5_2 k7_g5_3 g7_g5_3 k7_g6_0 g7_g6_0 k7_g6_1 g7_g6_1 k7_g6_2 g7_g6_2 k7_g6_3 g7_g6_3 k7_g7_0 g7_g7_0 k7_g7_1 g7_g7_1 k7_g7_2 g7_g7_2 k7_g7_3 g7_g7_3 k7_g8_0 g7_g8_0 k7_g8_1 g7_g8_1 k7_g8_2 g7_g8_2 k7_g8_3 g7_g8_3 k7_g9_0 g7_g9_0 k7_g9_1 g7_g9_1 k7_g9_2 g7_g9_2 k7_g9_3 g7_g9_3 B7 z7; intro f hf; have u5 : f 5 = (.pointer (some ⟨g5, 0, none⟩)) := (by rw [← hf]; rfl); clear hf; rintro w' ⟨h0, h1, h2, h3, h4, h5, h6, h7, h8, h9, h10, h11, h12, h13, h14, h15, h16, h17, h18, h19, h20, h21, h22, h23, h24, h25, h26, h27, h28, h29, h30, h31, h32, h33, h34, h35, h36, h37, h38, h39, h40, h41, h42, h43, h44, h45, h46, h47, h48, h49, h50, h51, h52, h53, h54, h55⟩; go_simp; try exact IntWalk.i64_in _ (by omega)
  refine obe_val (by rfl) ?_ ?_
  · clear k7_b2_0 g7_b2_0 k7_b2_1 g7_b2_1 k7_b2_2 g7_b2_2 k7_b2_3 g7_b2_3 k7_b3_0 g7_b3_0 k7_b3_1 g7_b3_1 k7_b3_2 g7_b3_2 k7_b3_3 g7_b3_3 k7_g5_0 g7_g5_0 k7_g5_1 g7_g5_1 k7_g5_2 g7_g5_2 k7_g5_3 g7_g5_3 k7_g6_0 g7_g6_0 k7_g6_1 g7_g6_1 k7_g6_2 g7_g6_2 k7_g6_3 g7_g6_3 k7_g7_0 g7_g7_0 k7_g7_1 g7_g7_1 k7_g7_2 g7_g7_2 k7_g7_3 g7_g7_3 k7_g8_0 g7_g8_0 k7_g8_1 g7_g8_1 k7_g8_2 g7_g8_2 k7_g8_3 g7_g8_3 k7_g9_0 g7_g9_0 k7_g9_1 g7_g9_1 k7_g9_2 g7_g9_2 k7_g9_3 g7_g9_3 B7 z7; intro f hf; have u83 : f 83 = (.pointer (some ⟨g5, 3, none⟩)) := (by rw [← hf]; rfl); clear hf; rintro w' ⟨h0, h1, h2, h3, h4, h5, h6, h7, h8, h9, h10, h11, h12, h13, h14, h15, h16, h17, h18, h19, h20, h21, h22, h23, h24, h25, h26, h27, h28, h29, h30, h31, h32, h33, h34, h35, h36, h37, h38, h39, h40, h41, h42, h43, h44, h45, h46, h47, h48, h49, h50, h51, h52, h53, h54, h55⟩; go_simp; try exact IntWalk.i64_in _ (by omega)
  refine obe_val (by rfl) ?_ ?_
  · clear k7_b2_0 g7_b2_0 k7_b2_1 g7_b2_1 k7_b2_2 g7_b2_2 k7_b2_3 g7_b2_3 k7_b3_0 g7_b3_0 k7_b3_1 g7_b3_1 k7_b3_2 g7_b3_2 k7_b3_3 g7_b3_3 k7_g5_0 g7_g5_0 k7_g5_1 g7_g5_1 k7_g5_2 g7_g5_2 k7_g5_3 g7_g5_3 k7_g6_0 g7_g6_0 k7_g6_1 g7_g6_1 k7_g6_2 g7_g6_2 k7_g6_3 g7_g6_3 k7_g7_0 g7_g7_0 k7_g7_1 g7_g7_1 k7_g7_2 g7_g7_2 k7_g7_3 g7_g7_3 k7_g8_0 g7_g8_0 k7_g8_1 g7_g8_1 k7_g8_2 g7_g8_2 k7_g8_3 g7_g8_3 k7_g9_0 g7_g9_0 k7_g9_1 g7_g9_1 k7_g9_2 g7_g9_2 k7_g9_3 g7_g9_3 B7 z7; intro f hf; have u82 : f 82 = (.int .u8 a) := (by rw [← hf]; rfl); have u84 : f 84 = (.int .u8 a) := (by rw [← hf]; rfl); clear hf; rintro w' ⟨h0, h1, h2, h3, h4, h5, h6, h7, h8, h9, h10, h11, h12, h13, h14, h15, h16, h17, h18, h19, h20, h21, h22, h23, h24, h25, h26, h27, h28, h29, h30, h31, h32, h33, h34, h35, h36, h37, h38, h39, h40, h41, h42, h43, h44, h45, h46, h47, h48, h49, h50, h51, h52, h53, h54, h55⟩; go_simp; try exact IntWalk.i64_in _ (by omega)
  refine obe_val (by rfl) ?_ ?_
  · clear k7_b2_0 g7_b2_0 k7_b2_1 g7_b2_1 k7_b2_2 g7_b2_2 k7_b2_3 g7_b2_3 k7_b3_0 g7_b3_0 k7_b3_1 g7_b3_1 k7_b3_2 g7_b3_2 k7_b3_3 g7_b3_3 k7_g5_0 g7_g5_0 k7_g5_1 g7_g5_1 k7_g5_2 g7_g5_2 k7_g5_3 g7_g5_3 k7_g6_0 g7_g6_0 k7_g6_1 g7_g6_1 k7_g6_2 g7_g6_2 k7_g6_3 g7_g6_3 k7_g7_0 g7_g7_0 k7_g7_1 g7_g7_1 k7_g7_2 g7_g7_2 k7_g7_3 g7_g7_3 k7_g8_0 g7_g8_0 k7_g8_1 g7_g8_1 k7_g8_2 g7_g8_2 k7_g8_3 g7_g8_3 k7_g9_0 g7_g9_0 k7_g9_1 g7_g9_1 k7_g9_2 g7_g9_2 k7_g9_3 g7_g9_3 B7 z7; intro f hf; have u80 : f 80 = (.bool false) := (by rw [← hf]; rfl); have u85 : f 85 = (.bool false) := (by rw [← hf]; rfl); clear hf; rintro w' ⟨h0, h1, h2, h3, h4, h5, h6, h7, h8, h9, h10, h11, h12, h13, h14, h15, h16, h17, h18, h19, h20, h21, h22, h23, h24, h25, h26, h27, h28, h29, h30, h31, h32, h33, h34, h35, h36, h37, h38, h39, h40, h41, h42, h43, h44, h45, h46, h47, h48, h49, h50, h51, h52, h53, h54, h55⟩; go_simp; try exact IntWalk.i64_in _ (by omega)
  refine obe_val (by rfl) ?_ ?_
  · clear k7_b2_0 g7_b2_0 k7_b2_1 g7_b2_1 k7_b2_2 g7_b2_2 k7_b2_3 g7_b2_3 k7_b3_0 g7_b3_0 k7_b3_1 g7_b3_1 k7_b3_2 g7_b3_2 k7_b3_3 g7_b3_3 k7_g5_0 g7_g5_0 k7_g5_1 g7_g5_1 k7_g5_2 g7_g5_2 k7_g5_3 g7_g5_3 k7_g6_0 g7_g6_0 k7_g6_1 g7_g6_1 k7_g6_2 g7_g6_2 k7_g6_3 g7_g6_3 k7_g7_0 g7_g7_0 k7_g7_1 g7_g7_1 k7_g7_2 g7_g7_2 k7_g7_3 g7_g7_3 k7_g8_0 g7_g8_0 k7_g8_1 g7_g8_1 k7_g8_2 g7_g8_2 k7_g8_3 g7_g8_3 k7_g9_0 g7_g9_0 k7_g9_1 g7_g9_1 k7_g9_2 g7_g9_2 k7_g9_3 g7_g9_3 B7 z7; intro f hf; have u86 : f 86 = (.bool false) := (by rw [← hf]; rfl); clear hf; rintro w' ⟨h0, h1, h2, h3, h4, h5, h6, h7, h8, h9, h10, h11, h12, h13, h14, h15, h16, h17, h18, h19, h20, h21, h22, h23, h24, h25, h26, h27, h28, h29, h30, h31, h32, h33, h34, h35, h36, h37, h38, h39, h40, h41, h42, h43, h44, h45, h46, h47, h48, h49, h50, h51, h52, h53, h54, h55⟩; go_simp; try exact IntWalk.i64_in _ (by omega)
  refine obe_val (by rfl) ?_ ?_
  · clear k7_b2_0 g7_b2_0 k7_b2_1 g7_b2_1 k7_b2_2 g7_b2_2 k7_b2_3 g7_b2_3 k7_b3_0 g7_b3_0 k7_b3_1 g7_b3_1 k7_b3_2 g7_b3_2 k7_b3_3 g7_b3_3 k7_g5_0 g7_g5_0 k7_g5_1 g7_g5_1 k7_g5_2 g7_g5_2 k7_g5_3 g7_g5_3 k7_g6_0 g7_g6_0 k7_g6_1 g7_g6_1 k7_g6_2 g7_g6_2 k7_g6_3 g7_g6_3 k7_g7_0 g7_g7_0 k7_g7_1 g7_g7_1 k7_g7_2 g7_g7_2 k7_g7_3 g7_g7_3 k7_g8_0 g7_g8_0 k7_g8_1 g7_g8_1 k7_g8_2 g7_g8_2 k7_g8_3 g7_g8_3 k7_g9_0 g7_g9_0 k7_g9_1 g7_g9_1 k7_g9_2 g7_g9_2 k7_g9_3 g7_g9_3 B7 z7; intro f hf; have u8 : f 8 = (.pointer (some ⟨g8, 0, none⟩)) := (by rw [← hf]; rfl); clear hf; rintro w' ⟨h0, h1, h2, h3, h4, h5, h6, h7, h8, h9, h10, h11, h12, h13, h14, h15, h16, h17, h18, h19, h20, h21, h22, h23, h24, h25, h26, h27, h28, h29, h30, h31, h32, h33, h34, h35, h36, h37, h38, h39, h40, h41, h42, h43, h44, h45, h46, h47, h48, h49, h50, h51, h52, h53, h54, h55⟩; go_simp; try exact IntWalk.i64_in _ (by omega)
  refine obe_val (by rfl) ?_ ?_
  · clear k7_b2_0 g7_b2_0 k7_b2_1 g7_b2_1 k7_b2_2 g7_b2_2 k7_b2_3 g7_b2_3 k7_b3_0 g7_b3_0 k7_b3_1 g7_b3_1 k7_b3_2 g7_b3_2 k7_b3_3 g7_b3_3 k7_g5_0 g7_g5_0 k7_g5_1 g7_g5_1 k7_g5_2 g7_g5_2 k7_g5_3 g7_g5_3 k7_g6_0 g7_g6_0 k7_g6_1 g7_g6_1 k7_g6_2 g7_g6_2 k7_g6_3 g7_g6_3 k7_g7_0 g7_g7_0 k7_g7_1 g7_g7_1 k7_g7_2 g7_g7_2 k7_g7_3 g7_g7_3 k7_g8_0 g7_g8_0 k7_g8_1 g7_g8_1 k7_g8_2 g7_g8_2 k7_g8_3 g7_g8_3 k7_g9_0 g7_g9_0 k7_g9_1 g7_g9_1 k7_g9_2 g7_g9_2 k7_g9_3 g7_g9_3 B7 z7; intro f hf; have u88 : f 88 = (.pointer (some ⟨g8, 3, none⟩)) := (by rw [← hf]; rfl); clear hf; rintro w' ⟨h0, h1, h2, h3, h4, h5, h6, h7, h8, h9, h10, h11, h12, h13, h14, h15, h16, h17, h18, h19, h20, h21, h22, h23, h24, h25, h26, h27, h28, h29, h30, h31, h32, h33, h34, h35, h36, h37, h38, h39, h40, h41, h42, h43, h44, h45, h46, h47, h48, h49, h50, h51, h52, h53, h54, h55⟩; go_simp; try exact IntWalk.i64_in _ (by omega)
  refine obe_val (by rfl) ?_ ?_
  · clear k7_b2_0 g7_b2_0 k7_b2_1 g7_b2_1 k7_b2_2 g7_b2_2 k7_b2_3 g7_b2_3 k7_b3_0 g7_b3_0 k7_b3_1 g7_b3_1 k7_b3_2 g7_b3_2 k7_b3_3 g7_b3_3 k7_g5_0 g7_g5_0 k7_g5_1 g7_g5_1 k7_g5_2 g7_g5_2 k7_g5_3 g7_g5_3 k7_g6_0 g7_g6_0 k7_g6_1 g7_g6_1 k7_g6_2 g7_g6_2 k7_g6_3 g7_g6_3 k7_g7_0 g7_g7_0 k7_g7_1 g7_g7_1 k7_g7_2 g7_g7_2 k7_g7_3 g7_g7_3 k7_g8_0 g7_g8_0 k7_g8_1 g7_g8_1 k7_g8_2 g7_g8_2 k7_g8_3 g7_g8_3 k7_g9_0 g7_g9_0 k7_g9_1 g7_g9_1 k7_g9_2 g7_g9_2 k7_g9_3 g7_g9_3 B7 z7; intro f hf; have u5 : f 5 = (.pointer (some ⟨g5, 0, none⟩)) := (by rw [← hf]; rfl); clear hf; rintro w' ⟨h0, h1, h2, h3, h4, h5, h6, h7, h8, h9, h10, h11, h12, h13, h14, h15, h16, h17, h18, h19, h20, h21, h22, h23, h24, h25, h26, h27, h28, h29, h30, h31, h32, h33, h34, h35, h36, h37, h38, h39, h40, h41, h42, h43, h44, h45, h46, h47, h48, h49, h50, h51, h52, h53, h54, h55⟩; go_simp; try exact IntWalk.i64_in _ (by omega)
  refine obe_val (by rfl) ?_ ?_
  · clear k7_b2_0 g7_b2_0 k7_b2_1 g7_b2_1 k7_b2_2 g7_b2_2 k7_b2_3 g7_b2_3 k7_b3_0 g7_b3_0 k7_b3_1 g7_b3_1 k7_b3_2 g7_b3_2 k7_b3_3 g7_b3_3 k7_g5_0 g7_g5_0 k7_g5_1 g7_g5_1 k7_g5_2 g7_g5_2 k7_g5_3 g7_g5_3 k7_g6_0 g7_g6_0 k7_g6_1 g7_g6_1 k7_g6_2 g7_g6_2 k7_g6_3 g7_g6_3 k7_g7_0 g7_g7_0 k7_g7_1 g7_g7_1 k7_g7_2 g7_g7_2 k7_g7_3 g7_g7_3 k7_g8_0 g7_g8_0 k7_g8_1 g7_g8_1 k7_g8_2 g7_g8_2 k7_g8_3 g7_g8_3 k7_g9_0 g7_g9_0 k7_g9_1 g7_g9_1 k7_g9_2 g7_g9_2 k7_g9_3 g7_g9_3 B7 z7; intro f hf; have u90 : f 90 = (.pointer (some ⟨g5, 3, none⟩)) := (by rw [← hf]; rfl); clear hf; rintro w' ⟨h0, h1, h2, h3, h4, h5, h6, h7, h8, h9, h10, h11, h12, h13, h14, h15, h16, h17, h18, h19, h20, h21, h22, h23, h24, h25, h26, h27, h28, h29, h30, h31, h32, h33, h34, h35, h36, h37, h38, h39, h40, h41, h42, h43, h44, h45, h46, h47, h48, h49, h50, h51, h52, h53, h54, h55⟩; go_simp; try exact IntWalk.i64_in _ (by omega)
  refine obe_val (by rfl) ?_ ?_
  · clear k7_b2_0 g7_b2_0 k7_b2_1 g7_b2_1 k7_b2_2 g7_b2_2 k7_b2_3 g7_b2_3 k7_b3_0 g7_b3_0 k7_b3_1 g7_b3_1 k7_b3_2 g7_b3_2 k7_b3_3 g7_b3_3 k7_g5_0 g7_g5_0 k7_g5_1 g7_g5_1 k7_g5_2 g7_g5_2 k7_g5_3 g7_g5_3 k7_g6_0 g7_g6_0 k7_g6_1 g7_g6_1 k7_g6_2 g7_g6_2 k7_g6_3 g7_g6_3 k7_g7_0 g7_g7_0 k7_g7_1 g7_g7_1 k7_g7_2 g7_g7_2 k7_g7_3 g7_g7_3 k7_g8_0 g7_g8_0 k7_g8_1 g7_g8_1 k7_g8_2 g7_g8_2 k7_g8_3 g7_g8_3 k7_g9_0 g7_g9_0 k7_g9_1 g7_g9_1 k7_g9_2 g7_g9_2 k7_g9_3 g7_g9_3 B7 z7; intro f hf; have u89 : f 89 = (.int .u8 0) := (by rw [← hf]; rfl); have u91 : f 91 = (.int .u8 a) := (by rw [← hf]; rfl); clear hf; rintro w' ⟨h0, h1, h2, h3, h4, h5, h6, h7, h8, h9, h10, h11, h12, h13, h14, h15, h16, h17, h18, h19, h20, h21, h22, h23, h24, h25, h26, h27, h28, h29, h30, h31, h32, h33, h34, h35, h36, h37, h38, h39, h40, h41, h42, h43, h44, h45, h46, h47, h48, h49, h50, h51, h52, h53, h54, h55⟩; go_simp; try exact IntWalk.i64_in _ (by omega)
  refine obe_val (by rfl) ?_ ?_
  · clear k7_b2_0 g7_b2_0 k7_b2_1 g7_b2_1 k7_b2_2 g7_b2_2 k7_b2_3 g7_b2_3 k7_b3_0 g7_b3_0 k7_b3_1 g7_b3_1 k7_b3_2 g7_b3_2 k7_b3_3 g7_b3_3 k7_g5_0 g7_g5_0 k7_g5_1 g7_g5_1 k7_g5_2 g7_g5_2 k7_g5_3 g7_g5_3 k7_g6_0 g7_g6_0 k7_g6_1 g7_g6_1 k7_g6_2 g7_g6_2 k7_g6_3 g7_g6_3 k7_g7_0 g7_g7_0 k7_g7_1 g7_g7_1 k7_g7_2 g7_g7_2 k7_g7_3 g7_g7_3 k7_g8_0 g7_g8_0 k7_g8_1 g7_g8_1 k7_g8_2 g7_g8_2 k7_g8_3 g7_g8_3 k7_g9_0 g7_g9_0 k7_g9_1 g7_g9_1 k7_g9_2 g7_g9_2 k7_g9_3 g7_g9_3 B7 z7; intro f hf; have u87 : f 87 = (.bool false) := (by rw [← hf]; rfl); have u92 : f 92 = (.bool false) := (by rw [← hf]; rfl); clear hf; rintro w' ⟨h0, h1, h2, h3, h4, h5, h6, h7, h8, h9, h10, h11, h12, h13, h14, h15, h16, h17, h18, h19, h20, h21, h22, h23, h24, h25, h26, h27, h28, h29, h30, h31, h32, h33, h34, h35, h36, h37, h38, h39, h40, h41, h42, h43, h44, h45, h46, h47, h48, h49, h50, h51, h52, h53, h54, h55⟩; go_simp; try exact IntWalk.i64_in _ (by omega)
  refine obe_val (by rfl) ?_ ?_
  · clear k7_b2_0 g7_b2_0 k7_b2_1 g7_b2_1 k7_b2_2 g7_b2_2 k7_b2_3 g7_b2_3 k7_b3_0 g7_b3_0 k7_b3_1 g7_b3_1 k7_b3_2 g7_b3_2 k7_b3_3 g7_b3_3 k7_g5_0 g7_g5_0 k7_g5_1 g7_g5_1 k7_g5_2 g7_g5_2 k7_g5_3 g7_g5_3 k7_g6_0 g7_g6_0 k7_g6_1 g7_g6_1 k7_g6_2 g7_g6_2 k7_g6_3 g7_g6_3 k7_g7_0 g7_g7_0 k7_g7_1 g7_g7_1 k7_g7_2 g7_g7_2 k7_g7_3 g7_g7_3 k7_g8_0 g7_g8_0 k7_g8_1 g7_g8_1 k7_g8_2 g7_g8_2 k7_g8_3 g7_g8_3 k7_g9_0 g7_g9_0 k7_g9_1 g7_g9_1 k7_g9_2 g7_g9_2 k7_g9_3 g7_g9_3 B7 z7; intro f hf; have u93 : f 93 = (.bool false) := (by rw [← hf]; rfl); clear hf; rintro w' ⟨h0, h1, h2, h3, h4, h5, h6, h7, h8, h9, h10, h11, h12, h13, h14, h15, h16, h17, h18, h19, h20, h21, h22, h23, h24, h25, h26, h27, h28, h29, h30, h31, h32, h33, h34, h35, h36, h37, h38, h39, h40, h41, h42, h43, h44, h45, h46, h47, h48, h49, h50, h51, h52, h53, h54, h55⟩; go_simp; try exact IntWalk.i64_in _ (by omega)
  refine obe_val (by rfl) ?_ ?_
  · clear k7_b2_0 g7_b2_0 k7_b2_1 g7_b2_1 k7_b2_2 g7_b2_2 k7_b2_3 g7_b2_3 k7_b3_0 g7_b3_0 k7_b3_1 g7_b3_1 k7_b3_2 g7_b3_2 k7_b3_3 g7_b3_3 k7_g5_0 g7_g5_0 k7_g5_1 g7_g5_1 k7_g5_2 g7_g5_2 k7_g5_3 g7_g5_3 k7_g6_0 g7_g6_0 k7_g6_1 g7_g6_1 k7_g6_2 g7_g6_2 k7_g6_3 g7_g6_3 k7_g7_0 g7_g7_0 k7_g7_1 g7_g7_1 k7_g7_2 g7_g7_2 k7_g7_3 g7_g7_3 k7_g8_0 g7_g8_0 k7_g8_1 g7_g8_1 k7_g8_2 g7_g8_2 k7_g8_3 g7_g8_3 k7_g9_0 g7_g9_0 k7_g9_1 g7_g9_1 k7_g9_2 g7_g9_2 k7_g9_3 g7_g9_3 B7 z7; intro f hf; have u9 : f 9 = (.pointer (some ⟨g9, 0, none⟩)) := (by rw [← hf]; rfl); clear hf; rintro w' ⟨h0, h1, h2, h3, h4, h5, h6, h7, h8, h9, h10, h11, h12, h13, h14, h15, h16, h17, h18, h19, h20, h21, h22, h23, h24, h25, h26, h27, h28, h29, h30, h31, h32, h33, h34, h35, h36, h37, h38, h39, h40, h41, h42, h43, h44, h45, h46, h47, h48, h49, h50, h51, h52, h53, h54, h55⟩; go_simp; try exact IntWalk.i64_in _ (by omega)
  refine obe_val (by rfl) ?_ ?_
  · clear k7_b2_0 g7_b2_0 k7_b2_1 g7_b2_1 k7_b2_2 g7_b2_2 k7_b2_3 g7_b2_3 k7_b3_0 g7_b3_0 k7_b3_1 g7_b3_1 k7_b3_2 g7_b3_2 k7_b3_3 g7_b3_3 k7_g5_0 g7_g5_0 k7_g5_1 g7_g5_1 k7_g5_2 g7_g5_2 k7_g5_3 g7_g5_3 k7_g6_0 g7_g6_0 k7_g6_1 g7_g6_1 k7_g6_2 g7_g6_2 k7_g6_3 g7_g6_3 k7_g7_0 g7_g7_0 k7_g7_1 g7_g7_1 k7_g7_2 g7_g7_2 k7_g7_3 g7_g7_3 k7_g8_0 g7_g8_0 k7_g8_1 g7_g8_1 k7_g8_2 g7_g8_2 k7_g8_3 g7_g8_3 k7_g9_0 g7_g9_0 k7_g9_1 g7_g9_1 k7_g9_2 g7_g9_2 k7_g9_3 g7_g9_3 B7 z7; intro f hf; have u3 : f 3 = (.pointer (some ⟨w.heap.size + 1, 0, none⟩)) := (by rw [← hf]; rfl); clear hf; rintro w' ⟨h0, h1, h2, h3, h4, h5, h6, h7, h8, h9, h10, h11, h12, h13, h14, h15, h16, h17, h18, h19, h20, h21, h22, h23, h24, h25, h26, h27, h28, h29, h30, h31, h32, h33, h34, h35, h36, h37, h38, h39, h40, h41, h42, h43, h44, h45, h46, h47, h48, h49, h50, h51, h52, h53, h54, h55⟩; go_simp; try exact IntWalk.i64_in _ (by omega)
  refine obe_val (by rfl) ?_ ?_
  · clear k7_b2_0 g7_b2_0 k7_b2_1 g7_b2_1 k7_b2_2 g7_b2_2 k7_b2_3 g7_b2_3 k7_b3_0 g7_b3_0 k7_b3_1 g7_b3_1 k7_b3_2 g7_b3_2 k7_b3_3 g7_b3_3 k7_g5_0 g7_g5_0 k7_g5_1 g7_g5_1 k7_g5_2 g7_g5_2 k7_g5_3 g7_g5_3 k7_g6_0 g7_g6_0 k7_g6_1 g7_g6_1 k7_g6_2 g7_g6_2 k7_g6_3 g7_g6_3 k7_g7_0 g7_g7_0 k7_g7_1 g7_g7_1 k7_g7_2 g7_g7_2 k7_g7_3 g7_g7_3 k7_g8_0 g7_g8_0 k7_g8_1 g7_g8_1 k7_g8_2 g7_g8_2 k7_g8_3 g7_g8_3 k7_g9_0 g7_g9_0 k7_g9_1 g7_g9_1 k7_g9_2 g7_g9_2 k7_g9_3 g7_g9_3 B7 z7; intro f hf; have u2 : f 2 = (.pointer (some ⟨w.heap.size, 0, none⟩)) := (by rw [← hf]; rfl); clear hf; rintro w' ⟨h0, h1, h2, h3, h4, h5, h6, h7, h8, h9, h10, h11, h12, h13, h14, h15, h16, h17, h18, h19, h20, h21, h22, h23, h24, h25, h26, h27, h28, h29, h30, h31, h32, h33, h34, h35, h36, h37, h38, h39, h40, h41, h42, h43, h44, h45, h46, h47, h48, h49, h50, h51, h52, h53, h54, h55⟩; go_simp; try exact IntWalk.i64_in _ (by omega)
  refine obe_call (by rfl) ?_ ?_ ?_
  · clear k7_b2_0 g7_b2_0 k7_b2_1 g7_b2_1 k7_b2_2 g7_b2_2 k7_b2_3 g7_b2_3 k7_b3_0 g7_b3_0 k7_b3_1 g7_b3_1 k7_b3_2 g7_b3_2 k7_b3_3 g7_b3_3 k7_g5_0 g7_g5_0 k7_g5_1 g7_g5_1 k7_g5_2 g7_g5_2 k7_g5_3 g7_g5_3 k7_g6_0 g7_g6_0 k7_g6_1 g7_g6_1 k7_g6_2 g7_g6_2 k7_g6_3 g7_g6_3 k7_g7_0 g7_g7_0 k7_g7_1 g7_g7_1 k7_g7_2 g7_g7_2 k7_g7_3 g7_g7_3 k7_g8_0 g7_g8_0 k7_g8_1 g7_g8_1 k7_g8_2 g7_g8_2 k7_g8_3 g7_g8_3 k7_g9_0 g7_g9_0 k7_g9_1 g7_g9_1 k7_g9_2 g7_g9_2 k7_g9_3 g7_g9_3 B7 z7; intro f hf; have u96 : f 96 = (.agg #[.int .u8 s, .int .u8 t, .int .u8 u, .int .u8 255]) := (by rw [← hf]; rfl); have u97 : f 97 = (.agg #[.int .u8 r, .int .u8 g, .int .u8 b, .int .u8 a]) := (by rw [← hf]; rfl); clear hf; intro w' _; simp only [execOp, resolve, invoke, rhoF_tmp, rhoF_func, rhoF_const, u96, u97, List.map_toArray, List.map_cons, List.map_nil]; go_simp
  · clear k7_b2_0 g7_b2_0 k7_b2_1 g7_b2_1 k7_b2_2 g7_b2_2 k7_b2_3 g7_b2_3 k7_b3_0 g7_b3_0 k7_b3_1 g7_b3_1 k7_b3_2 g7_b3_2 k7_b3_3 g7_b3_3 k7_g5_0 g7_g5_0 k7_g5_1 g7_g5_1 k7_g5_2 g7_g5_2 k7_g5_3 g7_g5_3 k7_g6_0 g7_g6_0 k7_g6_1 g7_g6_1 k7_g6_2 g7_g6_2 k7_g6_3 g7_g6_3 k7_g7_0 g7_g7_0 k7_g7_1 g7_g7_1 k7_g7_2 g7_g7_2 k7_g7_3 g7_g7_3 k7_g8_0 g7_g8_0 k7_g8_1 g7_g8_1 k7_g8_2 g7_g8_2 k7_g8_3 g7_g8_3 k7_g9_0 g7_g9_0 k7_g9_1 g7_g9_1 k7_g9_2 g7_g9_2 k7_g9_3 g7_g9_3 B7 z7; rintro w' ⟨h0, h1, h2, h3, h4, h5, h6, h7, h8, h9, h10, h11, h12, h13, h14, h15, h16, h17, h18, h19, h20, h21, h22, h23, h24, h25, h26, h27, h28, h29, h30, h31, h32, h33, h34, h35, h36, h37, h38, h39, h40, h41, h42, h43, h44, h45, h46, h47, h48, h49, h50, h51, h52, h53, h54, h55⟩; exact k8b _
  refine obe_val (by rfl) ?_ ?_
  · clear k7_b2_0 g7_b2_0 k7_b2_1 g7_b2_1 k7_b2_2 g7_b2_2 k7_b2_3 g7_b2_3 k7_b3_0 g7_b3_0 k7_b3_1 g7_b3_1 k7_b3_2 g7_b3_2 k7_b3_3 g7_b3_3 k7_g5_0 g7_g5_0 k7_g5_1 g7_g5_1 k7_g5_2 g7_g5_2 k7_g5_3 g7_g5_3 k7_g6_0 g7_g6_0 k7_g6_1 g7_g6_1 k7_g6_2 g7_g6_2 k7_g6_3 g7_g6_3 k7_g7_0 g7_g7_0 k7_g7_1 g7_g7_1 k7_g7_2 g7_g7_2 k7_g7_3 g7_g7_3 k7_g8_0 g7_g8_0 k7_g8_1 g7_g8_1 k7_g8_2 g7_g8_2 k7_g8_3 g7_g8_3 k7_g9_0 g7_g9_0 k7_g9_1 g7_g9_1 k7_g9_2 g7_g9_2 k7_g9_3 g7_g9_3 B7 z7; intro f hf; have u95 : f 95 = (.agg #[.int .u8 p0, .int .u8 p1, .int .u8 p2, .int .u8 p3]) := (by rw [← hf]; rfl); have u98 : f 98 = (.agg #[.int .u8 p0, .int .u8 p1, .int .u8 p2, .int .u8 p3]) := (by rw [← hf]; rfl); clear hf; rintro w' ⟨h0, h1, h2, h3, h4, h5, h6, h7, h8, h9, h10, h11, h12, h13, h14, h15, h16, h17, h18, h19, h20, h21, h22, h23, h24, h25, h26, h27, h28, h29, h30, h31, h32, h33, h34, h35, h36, h37, h38, h39, h40, h41, h42, h43, h44, h45, h46, h47, h48, h49, h50, h51, h52, h53, h54, h55⟩; go_simp; try exact IntWalk.i64_in _ (by omega)
  refine obe_val (by rfl) ?_ ?_
  · clear k7_b2_0 g7_b2_0 k7_b2_1 g7_b2_1 k7_b2_2 g7_b2_2 k7_b2_3 g7_b2_3 k7_b3_0 g7_b3_0 k7_b3_1 g7_b3_1 k7_b3_2 g7_b3_2 k7_b3_3 g7_b3_3 k7_g5_0 g7_g5_0 k7_g5_1 g7_g5_1 k7_g5_2 g7_g5_2 k7_g5_3 g7_g5_3 k7_g6_0 g7_g6_0 k7_g6_1 g7_g6_1 k7_g6_2 g7_g6_2 k7_g6_3 g7_g6_3 k7_g7_0 g7_g7_0 k7_g7_1 g7_g7_1 k7_g7_2 g7_g7_2 k7_g7_3 g7_g7_3 k7_g8_0 g7_g8_0 k7_g8_1 g7_g8_1 k7_g8_2 g7_g8_2 k7_g8_3 g7_g8_3 k7_g9_0 g7_g9_0 k7_g9_1 g7_g9_1 k7_g9_2 g7_g9_2 k7_g9_3 g7_g9_3 B7 z7; intro f hf; have u94 : f 94 = (.bool false) := (by rw [← hf]; rfl); have u99 : f 99 = (.bool false) := (by rw [← hf]; rfl); clear hf; rintro w' ⟨h0, h1, h2, h3, h4, h5, h6, h7, h8, h9, h10, h11, h12, h13, h14, h15, h16, h17, h18, h19, h20, h21, h22, h23, h24, h25, h26, h27, h28, h29, h30, h31, h32, h33, h34, h35, h36, h37, h38, h39, h40, h41, h42, h43, h44, h45, h46, h47, h48, h49, h50, h51, h52, h53, h54, h55⟩; go_simp; try exact IntWalk.i64_in _ (by omega)
  refine obe_val (by rfl) ?_ ?_
  · clear k7_b2_0 g7_b2_0 k7_b2_1 g7_b2_1 k7_b2_2 g7_b2_2 k7_b2_3 g7_b2_3 k7_b3_0 g7_b3_0 k7_b3_1 g7_b3_1 k7_b3_2 g7_b3_2 k7_b3_3 g7_b3_3 k7_g5_0 g7_g5_0 k7_g5_1 g7_g5_1 k7_g5_2 g7_g5_2 k7_g5_3 g7_g5_3 k7_g6_0 g7_g6_0 k7_g6_1 g7_g6_1 k7_g6_2 g7_g6_2 k7_g6_3 g7_g6_3 k7_g7_0 g7_g7_0 k7_g7_1 g7_g7_1 k7_g7_2 g7_g7_2 k7_g7_3 g7_g7_3 k7_g8_0 g7_g8_0 k7_g8_1 g7_g8_1 k7_g8_2 g7_g8_2 k7_g8_3 g7_g8_3 k7_g9_0 g7_g9_0 k7_g9_1 g7_g9_1 k7_g9_2 g7_g9_2 k7_g9_3 g7_g9_3 B7 z7; intro f hf; have u100 : f 100 = (.bool false) := (by rw [← hf]; rfl); clear hf; rintro w' ⟨h0, h1, h2, h3, h4, h5, h6, h7, h8, h9, h10, h11, h12, h13, h14, h15, h16, h17, h18, h19, h20, h21, h22, h23, h24, h25, h26, h27, h28, h29, h30, h31, h32, h33, h34, h35, h36, h37, h38, h39, h40, h41, h42, h43, h44, h45, h46, h47, h48, h49, h50, h51, h52, h53, h54, h55⟩; go_simp; try exact IntWalk.i64_in _ (by omega)
  refine obe_val (by rfl) ?_ ?_
  · clear k7_b2_0 g7_b2_0 k7_b2_1 g7_b2_1 k7_b2_2 g7_b2_2 k7_b2_3 g7_b2_3 k7_b3_0 g7_b3_0 k7_b3_1 g7_b3_1 k7_b3_2 g7_b3_2 k7_b3_3 g7_b3_3 k7_g5_0 g7_g5_0 k7_g5_1 g7_g5_1 k7_g5_2 g7_g5_2 k7_g5_3 g7_g5_3 k7_g6_0 g7_g6_0 k7_g6_1 g7_g6_1 k7_g6_2 g7_g6_2 k7_g6_3 g7_g6_3 k7_g7_0 g7_g7_0 k7_g7_1 g7_g7_1 k7_g7_2 g7_g7_2 k7_g7_3 g7_g7_3 k7_g8_0 g7_g8_0 k7_g8_1 g7_g8_1 k7_g8_2 g7_g8_2 k7_g8_3 g7_g8_3 k7_g9_0 g7_g9_0 k7_g9_1 g7_g9_1 k7_g9_2 g7_g9_2 k7_g9_3 g7_g9_3 B7 z7; intro f hf; have u9 : f 9 = (.pointer (some ⟨g9, 0, none⟩)) := (by rw [← hf]; rfl); clear hf; rintro w' ⟨h0, h1, h2, h3, h4, h5, h6, h7, h8, h9, h10, h11, h12, h13, h14, h15, h16, h17, h18, h19, h20, h21, h22, h23, h24, h25, h26, h27, h28, h29, h30, h31, h32, h33, h34, h35, h36, h37, h38, h39, h40, h41, h42, h43, h44, h45, h46, h47, h48, h49, h50, h51, h52, h53, h54, h55⟩; go_simp; try exact IntWalk.i64_in _ (by omega)
  refine obe_val (by rfl) ?_ ?_
  · clear k7_b2_0 g7_b2_0 k7_b2_1 g7_b2_1 k7_b2_2 g7_b2_2 k7_b2_3 g7_b2_3 k7_b3_0 g7_b3_0 k7_b3_1 g7_b3_1 k7_b3_2 g7_b3_2 k7_b3_3 g7_b3_3 k7_g5_0 g7_g5_0 k7_g5_1 g7_g5_1 k7_g5_2 g7_g5_2 k7_g5_3 g7_g5_3 k7_g6_0 g7_g6_0 k7_g6_1 g7_g6_1 k7_g6_2 g7_g6_2 k7_g6_3 g7_g6_3 k7_g7_0 g7_g7_0 k7_g7_1 g7_g7_1 k7_g7_2 g7_g7_2 k7_g7_3 g7_g7_3 k7_g8_0 g7_g8_0 k7_g8_1 g7_g8_1 k7_g8_2 g7_g8_2 k7_g8_3 g7_g8_3 k7_g9_0 g7_g9_0 k7_g9_1 g7_g9_1 k7_g9_2 g7_g9_2 k7_g9_3 g7_g9_3 B7 z7; intro f hf; have u102 : f 102 = (.pointer (some ⟨g9, 3, none⟩)) := (by rw [← hf]; rfl); clear hf; rintro w' ⟨h0, h1, h2, h3, h4, h5, h6, h7, h8, h9, h10, h11, h12, h13, h14, h15, h16, h17, h18, h19, h20, h21, h22, h23, h24, h25, h26, h27, h28, h29, h30, h31, h32, h33, h34, h35, h36, h37, h38, h39, h40, h41, h42, h43, h44, h45, h46, h47, h48, h49, h50, h51, h52, h53, h54, h55⟩; go_simp; try exact IntWalk.i64_in _ (by omega)
  refine obe_val (by rfl) ?_ ?_
  · clear k7_b2_0 g7_b2_0 k7_b2_1 g7_b2_1 k7_b2_2 g7_b2_2 k7_b2_3 g7_b2_3 k7_b3_0 g7_b3_0 k7_b3_1 g7_b3_1 k7_b3_2 g7_b3_2 k7_b3_3 g7_b3_3 k7_g5_0 g7_g5_0 k7_g5_1 g7_g5_1 k7_g5_2 g7_g5_2 k7_g5_3 g7_g5_3 k7_g6_0 g7_g6_0 k7_g6_1 g7_g6_1 k7_g6_2 g7_g6_2 k7_g6_3 g7_g6_3 k7_g7_0 g7_g7_0 k7_g7_1 g7_g7_1 k7_g7_2 g7_g7_2 k7_g7_3 g7_g7_3 k7_g8_0 g7_g8_0 k7_g8_1 g7_g8_1 k7_g8_2 g7_g8_2 k7_g8_3 g7_g8_3 k7_g9_0 g7_g9_0 k7_g9_1 g7_g9_1 k7_g9_2 g7_g9_2 k7_g9_3 g7_g9_3 B7 z7; intro f hf; have u5 : f 5 = (.pointer (some ⟨g5, 0, none⟩)) := (by rw [← hf]; rfl); clear hf; rintro w' ⟨h0, h1, h2, h3, h4, h5, h6, h7, h8, h9, h10, h11, h12, h13, h14, h15, h16, h17, h18, h19, h20, h21, h22, h23, h24, h25, h26, h27, h28, h29, h30, h31, h32, h33, h34, h35, h36, h37, h38, h39, h40, h41, h42, h43, h44, h45, h46, h47, h48, h49, h50, h51, h52, h53, h54, h55⟩; go_simp; try exact IntWalk.i64_in _ (by omega)
  refine obe_val (by rfl) ?_ ?_
  · clear k7_b2_0 g7_b2_0 k7_b2_1 g7_b2_1 k7_b2_2 g7_b2_2 k7_b2_3 g7_b2_3 k7_b3_0 g7_b3_0 k7_b3_1 g7_b3_1 k7_b3_2 g7_b3_2 k7_b3_3 g7_b3_3 k7_g5_0 g7_g5_0 k7_g5_1 g7_g5_1 k7_g5_2 g7_g5_2 k7_g5_3 g7_g5_3 k7_g6_0 g7_g6_0 k7_g6_1 g7_g6_1 k7_g6_2 g7_g6_2 k7_g6_3 g7_g6_3 k7_g7_0 g7_g7_0 k7_g7_1 g7_g7_1 k7_g7_2 g7_g7_2 k7_g7_3 g7_g7_3 k7_g8_0 g7_g8_0 k7_g8_1 g7_g8_1 k7_g8_2 g7_g8_2 k7_g8_3 g7_g8_3 k7_g9_0 g7_g9_0 k7_g9_1 g7_g9_1 k7_g9_2 g7_g9_2 k7_g9_3 g7_g9_3 B7 z7; intro f hf; have u104 : f 104 = (.pointer (some ⟨g5, 3, none⟩)) := (by rw [← hf]; rfl); clear hf; rintro w' ⟨h0, h1, h2, h3, h4, h5, h6, h7, h8, h9, h10, h11, h12, h13, h14, h15, h16, h17, h18, h19, h20, h21, h22, h23, h24, h25, h26, h27, h28, h29, h30, h31, h32, h33, h34, h35, h36, h37, h38, h39, h40, h41, h42, h43, h44, h45, h46, h47, h48, h49, h50, h51, h52, h53, h54, h55⟩; go_simp; try exact IntWalk.i64_in _ (by omega)
  refine obe_val (by rfl) ?_ ?_
  · clear k7_b2_0 g7_b2_0 k7_b2_1 g7_b2_1 k7_b2_2 g7_b2_2 k7_b2_3 g7_b2_3 k7_b3_0 g7_b3_0 k7_b3_1 g7_b3_1 k7_b3_2 g7_b3_2 k7_b3_3 g7_b3_3 k7_g5_0 g7_g5_0 k7_g5_1 g7_g5_1 k7_g5_2 g7_g5_2 k7_g5_3 g7_g5_3 k7_g6_0 g7_g6_0 k7_g6_1 g7_g6_1 k7_g6_2 g7_g6_2 k7_g6_3 g7_g6_3 k7_g7_0 g7_g7_0 k7_g7_1 g7_g7_1 k7_g7_2 g7_g7_2 k7_g7_3 g7_g7_3 k7_g8_0 g7_g8_0 k7_g8_1 g7_g8_1 k7_g8_2 g7_g8_2 k7_g8_3 g7_g8_3 k7_g9_0 g7_g9_0 k7_g9_1 g7_g9_1 k7_g9_2 g7_g9_2 k7_g9_3 g7_g9_3 B7 z7; intro f hf; have u6 : f 6 = (.pointer (some ⟨g6, 0, none⟩)) := (by rw [← hf]; rfl); clear hf; rintro w' ⟨h0, h1, h2, h3, h4, h5, h6, h7, h8, h9, h10, h11, h12, h13, h14, h15, h16, h17, h18, h19, h20, h21, h22, h23, h24, h25, h26, h27, h28, h29, h30, h31, h32, h33, h34, h35, h36, h37, h38, h39, h40, h41, h42, h43, h44, h45, h46, h47, h48, h49, h50, h51, h52, h53, h54, h55⟩; go_simp; try exact IntWalk.i64_in _ (by omega)
  refine obe_val (by rfl) ?_ ?_
  · clear k7_b2_0 g7_b2_0 k7_b2_1 g7_b2_1 k7_b2_2 g7_b2_2 k7_b2_3 g7_b2_3 k7_b3_0 g7_b3_0 k7_b3_1 g7_b3_1 k7_b3_2 g7_b3_2 k7_b3_3 g7_b3_3 k7_g5_0 g7_g5_0 k7_g5_1 g7_g5_1 k7_g5_2 g7_g5_2 k7_g5_3 g7_g5_3 k7_g6_0 g7_g6_0 k7_g6_1 g7_g6_1 k7_g6_2 g7_g6_2 k7_g6_3 g7_g6_3 k7_g7_0 g7_g7_0 k7_g7_1 g7_g7_1 k7_g7_2 g7_g7_2 k7_g7_3 g7_g7_3 k7_g8_0 g7_g8_0 k7_g8_1 g7_g8_1 k7_g8_2 g7_g8_2 k7_g8_3 g7_g8_3 k7_g9_0 g7_g9_0 k7_g9_1 g7_g9_1 k7_g9_2 g7_g9_2 k7_g9_3 g7_g9_3 B7 z7; intro f hf; have u106 : f 106 = (.pointer (some ⟨g6, 3, none⟩)) := (by rw [← hf]; rfl); clear hf; rintro w' ⟨h0, h1, h2, h3, h4, h5, h6, h7, h8, h9, h10, h11, h12, h13, h14, h15, h16, h17, h18, h19, h20, h21, h22, h23, h24, h25, h26, h27, h28, h29, h30, h31, h32, h33, h34, h35, h36, h37, h38, h39, h40, h41, h42, h43, h44, h45, h46, h47, h48, h49, h50, h51, h52, h53, h54, h55⟩; go_simp; try exact IntWalk.i64_in _ (by omega)
  refine obe_val (by rfl) ?_ ?_
  · clear k7_b2_0 g7_b2_0 k7_b2_1 g7_b2_1 k7_b2_2 g7_b2_2 k7_b2_3 g7_b2_3 k7_b3_0 g7_b3_0 k7_b3_1 g7_b3_1 k7_b3_2 g7_b3_2 k7_b3_3 g7_b3_3 k7_g5_0 g7_g5_0 k7_g5_1 g7_g5_1 k7_g5_2 g7_g5_2 k7_g5_3 g7_g5_3 k7_g6_0 g7_g6_0 k7_g6_1 g7_g6_1 k7_g6_2 g7_g6_2 k7_g6_3 g7_g6_3 k7_g7_0 g7_g7_0 k7_g7_1 g7_g7_1 k7_g7_2 g7_g7_2 k7_g7_3 g7_g7_3 k7_g8_0 g7_g8_0 k7_g8_1 g7_g8_1 k7_g8_2 g7_g8_2 k7_g8_3 g7_g8_3 k7_g9_0 g7_g9_0 k7_g9_1 g7_g9_1 k7_g9_2 g7_g9_2 k7_g9_3 g7_g9_3 B7 z7; intro f hf; have u105 : f 105 = (.int .u8 a) := (by rw [← hf]; rfl); have u107 : f 107 = (.int .u8 255) := (by rw [← hf]; rfl); clear hf; rintro w' ⟨h0, h1, h2, h3, h4, h5, h6, h7, h8, h9, h10, h11, h12, h13, h14, h15, h16, h17, h18, h19, h20, h21, h22, h23, h24, h25, h26, h27, h28, h29, h30, h31, h32, h33, h34, h35, h36, h37, h38, h39, h40, h41, h42, h43, h44, h45, h46, h47, h48, h49, h50, h51, h52, h53, h54, h55⟩; go_simp; try exact IntWalk.i64_in _ (by omega)
  refine obe_val (by rfl) ?_ ?_
  · clear k7_b2_0 g7_b2_0 k7_b2_1 g7_b2_1 k7_b2_2 g7_b2_2 k7_b2_3 g7_b2_3 k7_b3_0 g7_b3_0 k7_b3_1 g7_b3_1 k7_b3_2 g7_b3_2 k7_b3_3 g7_b3_3 k7_g5_0 g7_g5_0 k7_g5_1 g7_g5_1 k7_g5_2 g7_g5_2 k7_g5_3 g7_g5_3 k7_g6_0 g7_g6_0 k7_g6_1 g7_g6_1 k7_g6_2 g7_g6_2 k7_g6_3 g7_g6_3 k7_g7_0 g7_g7_0 k7_g7_1 g7_g7_1 k7_g7_2 g7_g7_2 k7_g7_3 g7_g7_3 k7_g8_0 g7_g8_0 k7_g8_1 g7_g8_1 k7_g8_2 g7_g8_2 k7_g8_3 g7_g8_3 k7_g9_0 g7_g9_0 k7_g9_1 g7_g9_1 k7_g9_2 g7_g9_2 k7_g9_3 g7_g9_3 B7 z7; intro f hf; have u103 : f 103 = (.int .u8 p3) := (by rw [← hf]; rfl); have u108 : f 108 = (.int .u8 mA) := (by rw [← hf]; rfl); clear hf; rintro w' ⟨h0, h1, h2, h3, h4, h5, h6, h7, h8, h9, h10, h11, h12, h13, h14, h15, h16, h17, h18, h19, h20, h21, h22, h23, h24, h25, h26, h27, h28, h29, h30, h31, h32, h33, h34, h35, h36, h37, h38, h39, h40, h41, h42, h43, h44, h45, h46, h47, h48, h49, h50, h51, h52, h53, h54, h55⟩; go_simp; try exact IntWalk.i64_in _ (by omega)
  refine obe_val (by rfl) ?_ ?_
  · clear k7_b2_0 g7_b2_0 k7_b2_1 g7_b2_1 k7_b2_2 g7_b2_2 k7_b2_3 g7_b2_3 k7_b3_0 g7_b3_0 k7_b3_1 g7_b3_1 k7_b3_2 g7_b3_2 k7_b3_3 g7_b3_3 k7_g5_0 g7_g5_0 k7_g5_1 g7_g5_1 k7_g5_2 g7_g5_2 k7_g5_3 g7_g5_3 k7_g6_0 g7_g6_0 k7_g6_1 g7_g6_1 k7_g6_2 g7_g6_2 k7_g6_3 g7_g6_3 k7_g7_0 g7_g7_0 k7_g7_1 g7_g7_1 k7_g7_2 g7_g7_2 k7_g7_3 g7_g7_3 k7_g8_0 g7_g8_0 k7_g8_1 g7_g8_1 k7_g8_2 g7_g8_2 k7_g8_3 g7_g8_3 k7_g9_0 g7_g9_0 k7_g9_1 g7_g9_1 k7_g9_2 g7_g9_2 k7_g9_3 g7_g9_3 B7 z7; intro f hf; have u101 : f 101 = (.bool false) := (by rw [← hf]; rfl); have u109 : f 109 = (.bool false) := (by rw [← hf]; rfl); clear hf; rintro w' ⟨h0, h1, h2, h3, h4, h5, h6, h7, h8, h9, h10, h11, h12, h13, h14, h15, h16, h17, h18, h19, h20, h21, h22, h23, h24, h25, h26, h27, h28, h29, h30, h31, h32, h33, h34, h35, h36, h37, h38, h39, h40, h41, h42, h43, h44, h45, h46, h47, h48, h49, h50, h51, h52, h53, h54, h55⟩; go_simp; try exact IntWalk.i64_in _ (by omega)
  refine obe_val (by rfl) ?_ ?_
  · clear k7_b2_0 g7_b2_0 k7_b2_1 g7_b2_1 k7_b2_2 g7_b2_2 k7_b2_3 g7_b2_3 k7_b3_0 g7_b3_0 k7_b3_1 g7_b3_1 k7_b3_2 g7_b3_2 k7_b3_3 g7_b3_3 k7_g5_0 g7_g5_0 k7_g5_1 g7_g5_1 k7_g5_2 g7_g5_2 k7_g5_3 g7_g5_3 k7_g6_0 g7_g6_0 k7_g6_1 g7_g6_1 k7_g6_2 g7_g6_2 k7_g6_3 g7_g6_3 k7_g7_0 g7_g7_0 k7_g7_1 g7_g7_1 k7_g7_2 g7_g7_2 k7_g7_3 g7_g7_3 k7_g8_0 g7_g8_0 k7_g8_1 g7_g8_1 k7_g8_2 g7_g8_2 k7_g8_3 g7_g8_3 k7_g9_0 g7_g9_0 k7_g9_1 g7_g9_1 k7_g9_2 g7_g9_2 k7_g9_3 g7_g9_3 B7 z7; intro f hf; have u110 : f 110 = (.bool false) := (by rw [← hf]; rfl); clear hf; rintro w' ⟨h0, h1, h2, h3, h4, h5, h6, h7, h8, h9, h10, h11, h12, h13, h14, h15, h16, h17, h18, h19, h20, h21, h22, h23, h24, h25, h26, h27, h28, h29, h30, h31, h32, h33, h34, h35, h36, h37, h38, h39, h40, h41, h42, h43, h44, h45, h46, h47, h48, h49, h50, h51, h52, h53, h54, h55⟩; go_simp; try exact IntWalk.i64_in _ (by omega)
  refine obe_val (by rfl) ?_ ?_
  · clear k7_b2_0 g7_b2_0 k7_b2_1 g7_b2_1 k7_b2_2 g7_b2_2 k7_b2_3 g7_b2_3 k7_b3_0 g7_b3_0 k7_b3_1 g7_b3_1 k7_b3_2 g7_b3_2 k7_b3_3 g7_b3_3 k7_g5_0 g7_g5_0 k7_g5_1 g7_g5_1 k7_g5_2 g7_g5_2 k7_g5_3 g7_g5_3 k7_g6_0 g7_g6_0 k7_g6_1 g7_g6_1 k7_g6_2 g7_g6_2 k7_g6_3 g7_g6_3 k7_g7_0 g7_g7_0 k7_g7_1 g7_g7_1 k7_g7_2 g7_g7_2 k7_g7_3 g7_g7_3 k7_g8_0 g7_g8_0 k7_g8_1 g7_g8_1 k7_g8_2 g7_g8_2 k7_g8_3 g7_g8_3 k7_g9_0 g7_g9_0 k7_g9_1 g7_g9_1 k7_g9_2 g7_g9_2 k7_g9_3 g7_g9_3 B7 z7; intro f hf; have u9 : f 9 = (.pointer (some ⟨g9, 0, none⟩)) := (by rw [← hf]; rfl); clear hf; rintro w' ⟨h0, h1, h2, h3, h4, h5, h6, h7, h8, h9, h10, h11, h12, h13, h14, h15, h16, h17, h18, h19, h20, h21, h22, h23, h24, h25, h26, h27, h28, h29, h30, h31, h32, h33, h34, h35, h36, h37, h38, h39, h40, h41, h42, h43, h44, h45, h46, h47, h48, h49, h50, h51, h52, h53, h54, h55⟩; go_simp; try exact IntWalk.i64_in _ (by omega)
  refine obe_val (by rfl) ?_ ?_
  · clear k7_b2_0 g7_b2_0 k7_b2_1 g7_b2_1 k7_b2_2 g7_b2_2 k7_b2_3 g7_b2_3 k7_b3_0 g7_b3_0 k7_b3_1 g7_b3_1 k7_b3_2 g7_b3_2 k7_b3_3 g7_b3_3 k7_g5_0 g7_g5_0 k7_g5_1 g7_g5_1 k7_g5_2 g7_g5_2 k7_g5_3 g7_g5_3 k7_g6_0 g7_g6_0 k7_g6_1 g7_g6_1 k7_g6_2 g7_g6_2 k7_g6_3 g7_g6_3 k7_g7_0 g7_g7_0 k7_g7_1 g7_g7_1 k7_g7_2 g7_g7_2 k7_g7_3 g7_g7_3 k7_g8_0 g7_g8_0 k7_g8_1 g7_g8_1 k7_g8_2 g7_g8_2 k7_g8_3 g7_g8_3 k7_g9_0 g7_g9_0 k7_g9_1 g7_g9_1 k7_g9_2 g7_g9_2 k7_g9_3 g7_g9_3 B7 z7; intro f hf; have u112 : f 112 = (.pointer (some ⟨g9, 0, none⟩)) := (by rw [← hf]; rfl); clear hf; rintro w' ⟨h0, h1, h2, h3, h4, h5, h6, h7, h8, h9, h10, h11, h12, h13, h14, h15, h16, h17, h18, h19, h20, h21, h22, h23, h24, h25, h26, h27, h28, h29, h30, h31, h32, h33, h34, h35, h36, h37, h38, h39, h40, h41, h42, h43, h44, h45, h46, h47, h48, h49, h50, h51, h52, h53, h54, h55⟩; go_simp; try exact IntWalk.i64_in _ (by omega)
  refine obe_val (by rfl) ?_ ?_
  · clear k7_b2_0 g7_b2_0 k7_b2_1 g7_b2_1 k7_b2_2 g7_b2_2 k7_b2_3 g7_b2_3 k7_b3_0 g7_b3_0 k7_b3_1 g7_b3_1 k7_b3_2 g7_b3_2 k7_b3_3 g7_b3_3 k7_g5_0 g7_g5_0 k7_g5_1 g7_g5_1 k7_g5_2 g7_g5_2 k7_g5_3 g7_g5_3 k7_g6_0 g7_g6_0 k7_g6_1 g7_g6_1 k7_g6_2 g7_g6_2 k7_g6_3 g7_g6_3 k7_g7_0 g7_g7_0 k7_g7_1 g7_g7_1 k7_g7_2 g7_g7_2 k7_g7_3 g7_g7_3 k7_g8_0 g7_g8_0 k7_g8_1 g7_g8_1 k7_g8_2 g7_g8_2 k7_g8_3 g7_g8_3 k7_g9_0 g7_g9_0 k7_g9_1 g7_g9_1 k7_g9_2 g7_g9_2 k7_g9_3 g7_g9_3 B7 z7; intro f hf; have u5 : f 5 = (.pointer (some ⟨g5, 0, none⟩)) := (by rw [← hf]; rfl); clear hf; rintro w' ⟨h0, h1, h2, h3, h4, h5, h6, h7, h8, h9, h10, h11, h12, h13, h14, h15, h16, h17, h18, h19, h20, h21, h22, h23, h24, h25, h26, h27, h28, h29, h30, h31, h32, h33, h34, h35, h36, h37, h38, h39, h40, h41, h42, h43, h44, h45, h46, h47, h48, h49, h50, h51, h52, h53, h54, h55⟩; go_simp; try exact IntWalk.i64_in _ (by omega)
  refine obe_val (by rfl) ?_ ?_
  · clear k7_b2_0 g7_b2_0 k7_b2_1 g7_b2_1 k7_b2_2 g7_b2_2 k7_b2_3 g7_b2_3 k7_b3_0 g7_b3_0 k7_b3_1 g7_b3_1 k7_b3_2 g7_b3_2 k7_b3_3 g7_b3_3 k7_g5_0 g7_g5_0 k7_g5_1 g7_g5_1 k7_g5_2 g7_g5_2 k7_g5_3 g7_g5_3 k7_g6_0 g7_g6_0 k7_g6_1 g7_g6_1 k7_g6_2 g7_g6_2 k7_g6_3 g7_g6_3 k7_g7_0 g7_g7_0 k7_g7_1 g7_g7_1 k7_g7_2 g7_g7_2 k7_g7_3 g7_g7_3 k7_g8_0 g7_g8_0 k7_g8_1 g7_g8_1 k7_g8_2 g7_g8_2 k7_g8_3 g7_g8_3 k7_g9_0 g7_g9_0 k7_g9_1 g7_g9_1 k7_g9_2 g7_g9_2 k7_g9_3 g7_g9_3 B7 z7; intro f hf; have u114 : f 114 = (.pointer (some ⟨g5, 0, none⟩)) := (by rw [← hf]; rfl); clear hf; rintro w' ⟨h0, h1, h2, h3, h4, h5, h6, h7, h8, h9, h10, h11, h12, h13, h14, h15, h16, h17, h18, h19, h20, h21, h22, h23, h24, h25, h26, h27, h28, h29, h30, h31, h32, h33, h34, h35, h36, h37, h38, h39, h40, h41, h42, h43, h44, h45, h46, h47, h48, h49, h50, h51, h52, h53, h54, h55⟩; go_simp; try exact IntWalk.i64_in _ (by omega)
  refine obe_val (by rfl) ?_ ?_
  · clear k7_b2_0 g7_b2_0 k7_b2_1 g7_b2_1 k7_b2_2 g7_b2_2 k7_b2_3 g7_b2_3 k7_b3_0 g7_b3_0 k7_b3_1 g7_b3_1 k7_b3_2 g7_b3_2 k7_b3_3 g7_b3_3 k7_g5_0 g7_g5_0 k7_g5_1 g7_g5_1 k7_g5_2 g7_g5_2 k7_g5_3 g7_g5_3 k7_g6_0 g7_g6_0 k7_g6_1 g7_g6_1 k7_g6_2 g7_g6_2 k7_g6_3 g7_g6_3 k7_g7_0 g7_g7_0 k7_g7_1 g7_g7_1 k7_g7_2 g7_g7_2 k7_g7_3 g7_g7_3 k7_g8_0 g7_g8_0 k7_g8_1 g7_g8_1 k7_g8_2 g7_g8_2 k7_g8_3 g7_g8_3 k7_g9_0 g7_g9_0 k7_g9_1 g7_g9_1 k7_g9_2 g7_g9_2 k7_g9_3 g7_g9_3 B7 z7; intro f hf; have u6 : f 6 = (.pointer (some ⟨g6, 0, none⟩)) := (by rw [← hf]; rfl); clear hf; rintro w' ⟨h0, h1, h2, h3, h4, h5, h6, h7, h8, h9, h10, h11, h12, h13, h14, h15, h16, h17, h18, h19, h20, h21, h22, h23, h24, h25, h26, h27, h28, h29, h30, h31, h32, h33, h34, h35, h36, h37, h38, h39, h40, h41, h42, h43, h44, h45, h46, h47, h48, h49, h50, h51, h52, h53, h54, h55⟩; go_simp; try exact IntWalk.i64_in _ (by omega)
  refine obe_val (by rfl) ?_ ?_
  · clear k7_b2_0 g7_b2_0 k7_b2_1 g7_b2_1 k7_b2_2 g7_b2_2 k7_b2_3 g7_b2_3 k7_b3_0 g7_b3_0 k7_b3_1 g7_b3_1 k7_b3_2 g7_b3_2 k7_b3_3 g7_b3_3 k7_g5_0 g7_g5_0 k7_g5_1 g7_g5_1 k7_g5_2 g7_g5_2 k7_g5_3 g7_g5_3 k7_g6_0 g7_g6_0 k7_g6_1 g7_g6_1 k7_g6_2 g7_g6_2 k7_g6_3 g7_g6_3 k7_g7_0 g7_g7_0 k7_g7_1 g7_g7_1 k7_g7_2 g7_g7_2 k7_g7_3 g7_g7_3 k7_g8_0 g7_g8_0 k7_g8_1 g7_g8_1 k7_g8_2 g7_g8_2 k7_g8_3 g7_g8_3 k7_g9_0 g7_g9_0 k7_g9_1 g7_g9_1 k7_g9_2 g7_g9_2 k7_g9_3 g7_g9_3 B7 z7; intro f hf; have u116 : f 116 = (.pointer (some ⟨g6, 0, none⟩)) := (by rw [← hf]; rfl); clear hf; rintro w' ⟨h0, h1, h2, h3, h4, h5, h6, h7, h8, h9, h10, h11, h12, h13, h14, h15, h16, h17, h18, h19, h20, h21, h22, h23, h24, h25, h26, h27, h28, h29, h30, h31, h32, h33, h34, h35, h36, h37, h38, h39, h40, h41, h42, h43, h44, h45, h46, h47, h48, h49, h50, h51, h52, h53, h54, h55⟩; go_simp; try exact IntWalk.i64_in _ (by omega)
  refine obe_val (by rfl) ?_ ?_
  · clear k7_b2_0 g7_b2_0 k7_b2_1 g7_b2_1 k7_b2_2 g7_b2_2 k7_b2_3 g7_b2_3 k7_b3_0 g7_b3_0 k7_b3_1 g7_b3_1 k7_b3_2 g7_b3_2 k7_b3_3 g7_b3_3 k7_g5_0 g7_g5_0 k7_g5_1 g7_g5_1 k7_g5_2 g7_g5_2 k7_g5_3 g7_g5_3 k7_g6_0 g7_g6_0 k7_g6_1 g7_g6_1 k7_g6_2 g7_g6_2 k7_g6_3 g7_g6_3 k7_g7_0 g7_g7_0 k7_g7_1 g7_g7_1 k7_g7_2 g7_g7_2 k7_g7_3 g7_g7_3 k7_g8_0 g7_g8_0 k7_g8_1 g7_g8_1 k7_g8_2 g7_g8_2 k7_g8_3 g7_g8_3 k7_g9_0 g7_g9_0 k7_g9_1 g7_g9_1 k7_g9_2 g7_g9_2 k7_g9_3 g7_g9_3 B7 z7; intro f hf; have u115 : f 115 = (.int .u8 cr) := (by rw [← hf]; rfl); have u117 : f 117 = (.int .u8 cs) := (by rw [← hf]; rfl); clear hf; rintro w' ⟨h0, h1, h2, h3, h4, h5, h6, h7, h8, h9, h10, h11, h12, h13, h14, h15, h16, h17, h18, h19, h20, h21, h22, h23, h24, h25, h26, h27, h28, h29, h30, h31, h32, h33, h34, h35, h36, h37, h38, h39, h40, h41, h42, h43, h44, h45, h46, h47, h48, h49, h50, h51, h52, h53, h54, h55⟩; go_simp; try exact IntWalk.i64_in _ (by omega)
  refine obe_val (by rfl) ?_ ?_
  · clear k7_b2_0 g7_b2_0 k7_b2_1 g7_b2_1 k7_b2_2 g7_b2_2 k7_b2_3 g7_b2_3 k7_b3_0 g7_b3_0 k7_b3_1 g7_b3_1 k7_b3_2 g7_b3_2 k7_b3_3 g7_b3_3 k7_g5_0 g7_g5_0 k7_g5_1 g7_g5_1 k7_g5_2 g7_g5_2 k7_g5_3 g7_g5_3 k7_g6_0 g7_g6_0 k7_g6_1 g7_g6_1 k7_g6_2 g7_g6_2 k7_g6_3 g7_g6_3 k7_g7_0 g7_g7_0 k7_g7_1 g7_g7_1 k7_g7_2 g7_g7_2 k7_g7_3 g7_g7_3 k7_g8_0 g7_g8_0 k7_g8_1 g7_g8_1 k7_g8_2 g7_g8_2 k7_g8_3 g7_g8_3 k7_g9_0 g7_g9_0 k7_g9_1 g7_g9_1 k7_g9_2 g7_g9_2 k7_g9_3 g7_g9_3 B7 z7; intro f hf; have u113 : f 113 = (.int .u8 p0) := (by rw [← hf]; rfl); have u118 : f 118 = (.int .u8 mR) := (by rw [← hf]; rfl); clear hf; rintro w' ⟨h0, h1, h2, h3, h4, h5, h6, h7, h8, h9, h10, h11, h12, h13, h14, h15, h16, h17, h18, h19, h20, h21, h22, h23, h24, h25, h26, h27, h28, h29, h30, h31, h32, h33, h34, h35, h36, h37, h38, h39, h40, h41, h42, h43, h44, h45, h46, h47, h48, h49, h50, h51, h52, h53, h54, h55⟩; go_simp; try exact IntWalk.i64_in _ (by omega)
  refine obe_val (by rfl) ?_ ?_
  · clear k7_b2_0 g7_b2_0 k7_b2_1 g7_b2_1 k7_b2_2 g7_b2_2 k7_b2_3 g7_b2_3 k7_b3_0 g7_b3_0 k7_b3_1 g7_b3_1 k7_b3_2 g7_b3_2 k7_b3_3 g7_b3_3 k7_g5_0 g7_g5_0 k7_g5_1 g7_g5_1 k7_g5_2 g7_g5_2 k7_g5_3 g7_g5_3 k7_g6_0 g7_g6_0 k7_g6_1 g7_g6_1 k7_g6_2 g7_g6_2 k7_g6_3 g7_g6_3 k7_g7_0 g7_g7_0 k7_g7_1 g7_g7_1 k7_g7_2 g7_g7_2 k7_g7_3 g7_g7_3 k7_g8_0 g7_g8_0 k7_g8_1 g7_g8_1 k7_g8_2 g7_g8_2 k7_g8_3 g7_g8_3 k7_g9_0 g7_g9_0 k7_g9_1 g7_g9_1 k7_g9_2 g7_g9_2 k7_g9_3 g7_g9_3 B7 z7; intro f hf; have u111 : f 111 = (.bool false) := (by rw [← hf]; rfl); have u119 : f 119 = (.bool false) := (by rw [← hf]; rfl); clear hf; rintro w' ⟨h0, h1, h2, h3, h4, h5, h6, h7, h8, h9, h10, h11, h12, h13, h14, h15, h16, h17, h18, h19, h20, h21, h22, h23, h24, h25, h26, h27, h28, h29, h30, h31, h32, h33, h34, h35, h36, h37, h38, h39, h40, h41, h42, h43, h44, h45, h46, h47, h48, h49, h50, h51, h52, h53, h54, h55⟩; go_simp; try exact IntWalk.i64_in _ (by omega)
  refine obe_nil ?_
  rintro w8 ⟨h0, h1, h2, h3, h4, h5, h6, h7, h8, h9, h10, h11, h12, h13, h14, h15, h16, h17, h18, h19, h20, h21, h22, h23, h24, h25, h26, h27, h28, h29, h30, h31, h32, h33, h34, h35, h36, h37, h38, h39, h40, h41, h42, h43, h44, h45, h46, h47, h48, h49, h50, h51, h52, h53, h54, h55⟩ hb8 hF
  (try simp only [List.nil_append, List.append_nil, List.cons_append] at hF)
  simp only [puts, putD, Act.put, List.setIfInBounds_toArray, List.set_cons_zero, List.set_cons_succ]
  clear hF
  have k8_b2_0 := bcs hb8 k7_b2_0
  have g8_b2_0 := bfs hb8 k7_b2_0 g7_b2_0
  have k8_b2_1 := bcs hb8 k7_b2_1
  have g8_b2_1 := bfs hb8 k7_b2_1 g7_b2_1
  have k8_b2_2 := bcs hb8 k7_b2_2
  have g8_b2_2 := bfs hb8 k7_b2_2 g7_b2_2
  have k8_b2_3 := bcs hb8 k7_b2_3
  have g8_b2_3 := bfs hb8 k7_b2_3 g7_b2_3
  have k8_b3_0 := bcs hb8 k7_b3_0
  have g8_b3_0 := bfs hb8 k7_b3_0 g7_b3_0
  have k8_b3_1 := bcs hb8 k7_b3_1
  have g8_b3_1 := bfs hb8 k7_b3_1 g7_b3_1
  have k8_b3_2 := bcs hb8 k7_b3_2
  have g8_b3_2 := bfs hb8 k7_b3_2 g7_b3_2
  have k8_b3_3 := bcs hb8 k7_b3_3
  have g8_b3_3 := bfs hb8 k7_b3_3 g7_b3_3
  have k8_g5_0 := bcs hb8 k7_g5_0
  have g8_g5_0 := bfs hb8 k7_g5_0 g7_g5_0
  have k8_g5_1 := bcs hb8 k7_g5_1
  have g8_g5_1 := bfs hb8 k7_g5_1 g7_g5_1
  have k8_g5_2 := bcs hb8 k7_g5_2
  have g8_g5_2 := bfs hb8 k7_g5_2 g7_g5_2
  have k8_g5_3 := bcs hb8 k7_g5_3
  have g8_g5_3 := bfs hb8 k7_g5_3 g7_g5_3
  have k8_g6_0 := bcs hb8 k7_g6_0
  have g8_g6_0 := bfs hb8 k7_g6_0 g7_g6_0
  have k8_g6_1 := bcs hb8 k7_g6_1
  have g8_g6_1 := bfs hb8 k7_g6_1 g7_g6_1
  have k8_g6_2 := bcs hb8 k7_g6_2
  have g8_g6_2 := bfs hb8 k7_g6_2 g7_g6_2
  have k8_g6_3 := bcs hb8 k7_g6_3
  have g8_g6_3 := bfs hb8 k7_g6_3 g7_g6_3
  have k8_g7_0 := bcs hb8 k7_g7_0
  have g8_g7_0 := bfs hb8 k7_g7_0 g7_g7_0
  have k8_g7_1 := bcs hb8 k7_g7_1
  have g8_g7_1 := bfs hb8 k7_g7_1 g7_g7_1
  have k8_g7_2 := bcs hb8 k7_g7_2
  have g8_g7_2 := bfs hb8 k7_g7_2 g7_g7_2
  have k8_g7_3 := bcs hb8 k7_g7_3
  have g8_g7_3 := bfs hb8 k7_g7_3 g7_g7_3
  have k8_g8_0 := bcs hb8 k7_g8_0
  have g8_g8_0 := bfs hb8 k7_g8_0 g7_g8_0
  have k8_g8_1 := bcs hb8 k7_g8_1
  have g8_g8_1 := bfs hb8 k7_g8_1 g7_g8_1
  have k8_g8_2 := bcs hb8 k7_g8_2
  have g8_g8_2 := bfs hb8 k7_g8_2 g7_g8_2
  have k8_g8_3 := bcs hb8 k7_g8_3
  have g8_g8_3 := bfs hb8 k7_g8_3 g7_g8_3
  have k8_g9_0 := bcs hb8 k7_g9_0
  have g8_g9_0 := bfs hb8 k7_g9_0 g7_g9_0
  have k8_g9_1 := bcs hb8 k7_g9_1
  have g8_g9_1 := bfs hb8 k7_g9_1 g7_g9_1
  have k8_g9_2 := bcs hb8 k7_g9_2
  have g8_g9_2 := bfs hb8 k7_g9_2 g7_g9_2
  have k8_g9_3 := bcs hb8 k7_g9_3
  have g8_g9_3 := bfs hb8 k7_g9_3 g7_g9_3
  clear h0 h1 h2 h3 h4 h5 h6 h7 h8 h9 h10 h11 h12 h13 h14 h15 h16 h17 h18 h19 h20 h21 h22 h23 h24 h25 h26 h27 h28 h29 h30 h31 h32 h33 h34 h35 h36 h37 h38 h39 h40 h41 h42 h43 h44 h45 h46 h47 h48 h49 h50 h51 h52 h53 h54 h55
  have B8 := bel_step B7 hb8
  have z8 := Nat.le_trans z7 hb8.size
  clear hb8
  (try clear B7)
  (try clear z7)
  (try clear k7_b2_0)
  (try clear g7_b2_0)
  (try clear k7_b2_1)
  (try clear g7_b2_1)
  (try clear k7_b2_2)
  (try clear g7_b2_2)
  (try clear k7_b2_3)
  (try clear g7_b2_3)
  (try clear k7_b3_0)
  (try clear g7_b3_0)
  (try clear k7_b3_1)
  (try clear g7_b3_1)
  (try clear k7_b3_2)
  (try clear g7_b3_2)
  (try clear k7_b3_3)
  (try clear g7_b3_3)
  (try clear k7_g5_0)
  (try clear g7_g5_0)
  (try clear k7_g5_1)
  (try clear g7_g5_1)
  (try clear k7_g5_2)
  (try clear g7_g5_2)
  (try clear k7_g5_3)
  (try clear g7_g5_3)
  (try clear k7_g6_0)
  (try clear g7_g6_0)
  (try clear k7_g6_1)
  (try clear g7_g6_1)
  (try clear k7_g6_2)
  (try clear g7_g6_2)
  (try clear k7_g6_3)
  (try clear g7_g6_3)
  (try clear k7_g7_0)
  (try clear g7_g7_0)
  (try clear k7_g7_1)
  (try clear g7_g7_1)
  (try clear k7_g7_2)
  (try clear g7_g7_2)
  (try clear k7_g7_3)
  (try clear g7_g7_3)
  (try clear k7_g8_0)
  (try clear g7_g8_0)
  (try clear k7_g8_1)
  (try clear g7_g8_1)
  (try clear k7_g8_2)
  (try clear g7_g8_2)
  (try clear k7_g8_3)
  (try clear g7_g8_3)
  (try clear k7_g9_0)
  (try clear g7_g9_0)
  (try clear k7_g9_1)
  (try clear g7_g9_1)
  (try clear k7_g9_2)
  (try clear g7_g9_2)
  (try clear k7_g9_3)
  (try clear g7_g9_3)
  (try clear q7_b2)
  (try clear x7_b2)
  (try clear y7_b2)
  (try clear q7_b3)
  (try clear x7_b3)
  (try clear y7_b3)
  (try clear q7_g5)
  (try clear x7_g5)
  (try clear y7_g5)
  (try clear q7_g6)
  (try clear x7_g6)
  (try clear y7_g6)
  (try clear q7_g7)
  (try clear x7_g7)
  (try clear y7_g7)
  (try clear q7_g8)
  (try clear x7_g8)
  (try clear y7_g8)
  (try clear q7_g9)
  (try clear x7_g9)
  (try clear y7_g9)
  have q8_b2 : w.heap.size < w8.heap.size := qlt k8_b2_0
  have x8_b2 : ¬ w.heap.size = w8.heap.size := qne k8_b2_0
  have y8_b2 : ¬ w8.heap.size = w.heap.size := fun h => qne k8_b2_0 h.symm
  have q8_b3 : w.heap.size + 1 < w8.heap.size := qlt k8_b3_0
  have x8_b3 : ¬ w.heap.size + 1 = w8.heap.size := qne k8_b3_0
  have y8_b3 : ¬ w8.heap.size = w.heap.size + 1 := fun h => qne k8_b3_0 h.symm
  have q8_g5 : g5 < w8.heap.size := qlt k8_g5_0
  have x8_g5 : ¬ g5 = w8.heap.size := qne k8_g5_0
  have y8_g5 : ¬ w8.heap.size = g5 := fun h => qne k8_g5_0 h.symm
  have q8_g6 : g6 < w8.heap.size := qlt k8_g6_0
  have x8_g6 : ¬ g6 = w8.heap.size := qne k8_g6_0
  have y8_g6 : ¬ w8.heap.size = g6 := fun h => qne k8_g6_0 h.symm
  have q8_g7 : g7 < w8.heap.size := qlt k8_g7_0
  have x8_g7 : ¬ g7 = w8.heap.size := qne k8_g7_0
  have y8_g7 : ¬ w8.heap.size = g7 := fun h => qne k8_g7_0 h.symm
  have q8_g8 : g8 < w8.heap.size := qlt k8_g8_0
  have x8_g8 : ¬ g8 = w8.heap.size := qne k8_g8_0
  have y8_g8 : ¬ w8.heap.size = g8 := fun h => qne k8_g8_0 h.symm
  have q8_g9 : g9 < w8.heap.size := qlt k8_g9_0
  have x8_g9 : ¬ g9 = w8.heap.size := qne k8_g9_0
  have y8_g9 : ¬ w8.heap.size = g9 := fun h => qne k8_g9_0 h.symm
  unfold wpList
  go_wp2
  refine wp_region_env (fun w' => w'.cell? ⟨w.heap.size, 0, none⟩ = some (.int .u8 r) ∧ w'.frozen? ⟨w.heap.size, 0, none⟩ = false ∧ w'.cell? ⟨w.heap.size, 1, none⟩ = some (.int .u8 g) ∧ w'.frozen? ⟨w.heap.size, 1, none⟩ = false ∧ w'.cell? ⟨w.heap.size, 2, none⟩ = some (.int .u8 b) ∧ w'.frozen? ⟨w.heap.size, 2, none⟩ = false ∧ w'.cell? ⟨w.heap.size, 3, none⟩ = some (.int .u8 a) ∧ w'.frozen? ⟨w.heap.size, 3, none⟩ = false ∧ w'.cell? ⟨w.heap.size + 1, 0, none⟩ = some (.int .u8 s) ∧ w'.frozen? ⟨w.heap.size + 1, 0, none⟩ = false ∧ w'.cell? ⟨w.heap.size + 1, 1, none⟩ = some (.int .u8 t) ∧ w'.frozen? ⟨w.heap.size + 1, 1, none⟩ = false ∧ w'.cell? ⟨w.heap.size + 1, 2, none⟩ = some (.int .u8 u) ∧ w'.frozen? ⟨w.heap.size + 1, 2, none⟩ = false ∧ w'.cell? ⟨w.heap.size + 1, 3, none⟩ = some (.int .u8 255) ∧ w'.frozen? ⟨w.heap.size + 1, 3, none⟩ = false ∧ w'.cell? ⟨g5, 0, none⟩ = some (.int .u8 cr) ∧ w'.frozen? ⟨g5, 0, none⟩ = false ∧ w'.cell? ⟨g5, 1, none⟩ = some (.int .u8 cg) ∧ w'.frozen? ⟨g5, 1, none⟩ = false ∧ w'.cell? ⟨g5, 2, none⟩ = some (.int .u8 cb) ∧ w'.frozen? ⟨g5, 2, none⟩ = false ∧ w'.cell? ⟨g5, 3, none⟩ = some (.int .u8 a) ∧ w'.frozen? ⟨g5, 3, none⟩ = false ∧ w'.cell? ⟨g6, 0, none⟩ = some (.int .u8 cs) ∧ w'.frozen? ⟨g6, 0, none⟩ = false ∧ w'.cell? ⟨g6, 1, none⟩ = some (.int .u8 ct) ∧ w'.frozen? ⟨g6, 1, none⟩ = false ∧ w'.cell? ⟨g6, 2, none⟩ = some (.int .u8 cu) ∧ w'.frozen? ⟨g6, 2, none⟩ = false ∧ w'.cell? ⟨g6, 3, none⟩ = some (.int .u8 255) ∧ w'.frozen? ⟨g6, 3, none⟩ = false ∧ w'.cell? ⟨g7, 0, none⟩ = some (.int .u8 cr) ∧ w'.frozen? ⟨g7, 0, none⟩ = false ∧ w'.cell? ⟨g7, 1, none⟩ = some (.int .u8 cg) ∧ w'.frozen? ⟨g7, 1, none⟩ = false ∧ w'.cell? ⟨g7, 2, none⟩ = some (.int .u8 cb) ∧ w'.frozen? ⟨g7, 2, none⟩ = false ∧ w'.cell? ⟨g7, 3, none⟩ = some (.int .u8 a) ∧ w'.frozen? ⟨g7, 3, none⟩ = false ∧ w'.cell? ⟨g8, 0, none⟩ = some (.int .u8 0) ∧ w'.frozen? ⟨g8, 0, none⟩ = false ∧ w'.cell? ⟨g8, 1, none⟩ = some (.int .u8 0) ∧ w'.frozen? ⟨g8, 1, none⟩ = false ∧ w'.cell? ⟨g8, 2, none⟩ = some (.int .u8 0) ∧ w'.frozen? ⟨g8, 2, none⟩ = false ∧ w'.cell? ⟨g8, 3, none⟩ = some (.int .u8 0) ∧ w'.frozen? ⟨g8, 3, none⟩ = false ∧ w'.cell? ⟨g9, 0, none⟩ = some (.int .u8 p0) ∧ w'.frozen? ⟨g9, 0, none⟩ = false ∧ w'.cell? ⟨g9, 1, none⟩ = some (.int .u8 p1) ∧ w'.frozen? ⟨g9, 1, none⟩ = false ∧ w'.cell? ⟨g9, 2, none⟩ = some (.int .u8 p2) ∧ w'.frozen? ⟨g9, 2, none⟩ = false ∧ w'.cell? ⟨g9, 3, none⟩ = some (.int .u8 p3) ∧ w'.frozen? ⟨g9, 3, none⟩ = false) (fun W => W.cell? ⟨w.heap.size, 0, none⟩ = some (.int .u8 r) ∧ W.frozen? ⟨w.heap.size, 0, none⟩ = false ∧ W.cell? ⟨w.heap.size, 1, none⟩ = some (.int .u8 g) ∧ W.frozen? ⟨w.heap.size, 1, none⟩ = false ∧ W.cell? ⟨w.heap.size, 2, none⟩ = some (.int .u8 b) ∧ W.frozen? ⟨w.heap.size, 2, none⟩ = false ∧ W.cell? ⟨w.heap.size, 3, none⟩ = some (.int .u8 a) ∧ W.frozen? ⟨w.heap.size, 3, none⟩ = false ∧ W.cell? ⟨w.heap.size + 1, 0, none⟩ = some (.int .u8 s) ∧ W.frozen? ⟨w.heap.size + 1, 0, none⟩ = false ∧ W.cell? ⟨w.heap.size + 1, 1, none⟩ = some (.int .u8 t) ∧ W.frozen? ⟨w.heap.size + 1, 1, none⟩ = false ∧ W.cell? ⟨w.heap.size + 1, 2, none⟩ = some (.int .u8 u) ∧ W.frozen? ⟨w.heap.size + 1, 2, none⟩ = false ∧ W.cell? ⟨w.heap.size + 1, 3, none⟩ = some (.int .u8 255) ∧ W.frozen? ⟨w.heap.size + 1, 3, none⟩ = false ∧ W.cell? ⟨g5, 0, none⟩ = some (.int .u8 cr) ∧ W.frozen? ⟨g5, 0, none⟩ = false ∧ W.cell? ⟨g5, 1, none⟩ = some (.int .u8 cg) ∧ W.frozen? ⟨g5, 1, none⟩ = false ∧ W.cell? ⟨g5, 2, none⟩ = some (.int .u8 cb) ∧ W.frozen? ⟨g5, 2, none⟩ = false ∧ W.cell? ⟨g5, 3, none⟩ = some (.int .u8 a) ∧ W.frozen? ⟨g5, 3, none⟩ = false ∧ W.cell? ⟨g6, 0, none⟩ = some (.int .u8 cs) ∧ W.frozen? ⟨g6, 0, none⟩ = false ∧ W.cell? ⟨g6, 1, none⟩ = some (.int .u8 ct) ∧ W.frozen? ⟨g6, 1, none⟩ = false ∧ W.cell? ⟨g6, 2, none⟩ = some (.int .u8 cu) ∧ W.frozen? ⟨g6, 2, none⟩ = false ∧ W.cell? ⟨g6, 3, none⟩ = some (.int .u8 255) ∧ W.frozen? ⟨g6, 3, none⟩ = false ∧ W.cell? ⟨g7, 0, none⟩ = some (.int .u8 cr) ∧ W.frozen? ⟨g7, 0, none⟩ = false ∧ W.cell? ⟨g7, 1, none⟩ = some (.int .u8 cg) ∧ W.frozen? ⟨g7, 1, none⟩ = false ∧ W.cell? ⟨g7, 2, none⟩ = some (.int .u8 cb) ∧ W.frozen? ⟨g7, 2, none⟩ = false ∧ W.cell? ⟨g7, 3, none⟩ = some (.int .u8 a) ∧ W.frozen? ⟨g7, 3, none⟩ = false ∧ W.cell? ⟨g8, 0, none⟩ = some (.int .u8 0) ∧ W.frozen? ⟨g8, 0, none⟩ = false ∧ W.cell? ⟨g8, 1, none⟩ = some (.int .u8 0) ∧ W.frozen? ⟨g8, 1, none⟩ = false ∧ W.cell? ⟨g8, 2, none⟩ = some (.int .u8 0) ∧ W.frozen? ⟨g8, 2, none⟩ = false ∧ W.cell? ⟨g8, 3, none⟩ = some (.int .u8 0) ∧ W.frozen? ⟨g8, 3, none⟩ = false ∧ W.cell? ⟨g9, 0, none⟩ = some (.int .u8 p0) ∧ W.frozen? ⟨g9, 0, none⟩ = false ∧ W.cell? ⟨g9, 1, none⟩ = some (.int .u8 p1) ∧ W.frozen? ⟨g9, 1, none⟩ = false ∧ W.cell? ⟨g9, 2, none⟩ = some (.int .u8 p2) ∧ W.frozen? ⟨g9, 2, none⟩ = false ∧ W.cell? ⟨g9, 3, none⟩ = some (.int .u8 p3) ∧ W.frozen? ⟨g9, 3, none⟩ = false ∧ Below w.heap.size w W ∧ w.heap.size + 1 + 1 ≤ W.heap.size) 38 158 [.val (.pointer (some ⟨g6, 3, none⟩)), .val (.int .u8 255), .val (.bool false), .val (.bool false), .val (.agg #[.int .u8 cr, .int .u8 cg, .int .u8 cb, .int .u8 a]), .val (.agg #[.int .u8 cr, .int .u8 cg, .int .u8 cb, .int .u8 a]), .val (.bool true), .val (.bool true), .val (.agg #[.int .u8 0, .int .u8 0, .int .u8 0, .int .u8 0]), .val (.agg #[.int .u8 0, .int .u8 0, .int .u8 0, .int .u8 0]), .val (.bool true), .val (.bool true), .val (.bool true), .val (.agg #[.int .u8 r, .int .u8 g, .int .u8 b, .int .u8 a]), .val (.agg #[.int .u8 s, .int .u8 t, .int .u8 u, .int .u8 255]), .call 15 #[.int .i64 6, .agg #[.int .u8 r, .int .u8 g, .int .u8 b, .int .u8 a], .agg #[.int .u8 s, .int .u8 t, .int .u8 u, .int .u8 255]] (.agg #[.int .u8 v0, .int .u8 v1, .int .u8 v2, .int .u8 v3]), .val (.agg #[.int .u8 r, .int .u8 g, .int .u8 b, .int .u8 a]), .val (.agg #[.int .u8 s, .int .u8 t, .int .u8 u, .int .u8 255]), .call 15 #[.int .i64 3, .agg #[.int .u8 r, .int .u8 g, .int .u8 b, .int .u8 a], .agg #[.int .u8 s, .int .u8 t, .int .u8 u, .int .u8 255]] (.agg #[.int .u8 v0, .int .u8 v1, .int .u8 v2, .int .u8 v3]), .val (.bool true), .val (.bool true), .val (.bool true), .val (.bool true), .val (.pointer (some ⟨g5, 3, none⟩)), .val (.int .u8 a), .val (.bool true), .val (.bool true), .skip, .skip, .skip, .skip, .skip, .val (.bool true), .val (.bool true), .val (.bool true), .call 14 #[] (.bool true), .val (.bool true), .val (.bool true)] (by kernel_rfl) (by kernel_rfl) rfl (by kernel_rfl) (by rintro w1 w2 ⟨h0, h1, h2, h3, h4, h5, h6, h7, h8, h9, h10, h11, h12, h13, h14, h15, h16, h17, h18, h19, h20, h21, h22, h23, h24, h25, h26, h27, h28, h29, h30, h31, h32, h33, h34, h35, h36, h37, h38, h39, h40, h41, h42, h43, h44, h45, h46, h47, h48, h49, h50, h51, h52, h53, h54, h55⟩ hb; exact ⟨bcs hb h0, bfs hb h0 h1, bcs hb h2, bfs hb h2 h3, bcs hb h4, bfs hb h4 h5, bcs hb h6, bfs hb h6 h7, bcs hb h8, bfs hb h8 h9, bcs hb h10, bfs hb h10 h11, bcs hb h12, bfs hb h12 h13, bcs hb h14, bfs hb h14 h15, bcs hb h16, bfs hb h16 h17, bcs hb h18, bfs hb h18 h19, bcs hb h20, bfs hb h20 h21, bcs hb h22, bfs hb h22 h23, bcs hb h24, bfs hb h24 h25, bcs hb h26, bfs hb h26 h27, bcs hb h28, bfs hb h28 h29, bcs hb h30, bfs hb h30 h31, bcs hb h32, bfs hb h32 h33, bcs hb h34, bfs hb h34 h35, bcs hb h36, bfs hb h36 h37, bcs hb h38, bfs hb h38 h39, bcs hb h40, bfs hb h40 h41, bcs hb h42, bfs hb h42 h43, bcs hb h44, bfs hb h44 h45, bcs hb h46, bfs hb h46 h47, bcs hb h48, bfs hb h48 h49, bcs hb h50, bfs hb h50 h51, bcs hb h52, bfs hb h52 h53, bcs hb h54, bfs hb h54 h55⟩) ⟨by first | with_reducible assumption | go_simp, by first | with_reducible assumption | go_simp, by first | with_reducible assumption | go_simp, by first | with_reducible assumption | go_simp, by first | with_reducible assumption | go_simp, by first | with_reducible assumption | go_simp, by first | with_reducible assumption | go_simp, by first | with_reducible assumption | go_simp, by first | with_reducible assumption | go_simp, by first | with_reducible assumption | go_simp, by first | with_reducible assumption | go_simp, by first | with_reducible assumption | go_simp, by first | with_reducible assumption | go_simp, by first | with_reducible assumption | go_simp, by first | with_reducible assumption | go_simp, by first | with_reducible assumption | go_simp, by first | with_reducible assumption | go_simp, by first | with_reducible assumption | go_simp, by first | with_reducible assumption | go_simp, by first | with_reducible assumption | go_simp, by first | with_reducible assumption | go_simp, by first | with_reducible assumption | go_simp, by first | with_reducible assumption | go_simp, by first | with_reducible assumption | go_simp, by first | with_reducible assumption | go_simp, by first | with_reducible assumption | go_simp, by first | with_reducible assumption | go_simp, by first | with_reducible assumption | go_simp, by first | with_reducible assumption | go_simp, by first | with_reducible assumption | go_simp, by first | with_reducible assumption | go_simp, by first | with_reducible assumption | go_simp, by first | with_reducible assumption | go_simp, by first | with_reducible assumption | go_simp, by first | with_reducible assumption | go_simp, by first | with_reducible assumption | go_simp, by first | with_reducible assumption | go_simp, by first | with_reducible assumption | go_simp, by first | with_reducible assumption | go_simp, by first | with_reducible assumption | go_simp, by first | with_reducible assumption | go_simp, by first | with_reducible assumption | go_simp, by first | with_reducible assumption | go_simp, by first | with_reducible assumption | go_simp, by first | with_reducible assumption | go_simp, by first | with_reducible assumption | go_simp, by first | with_reducible assumption | go_simp, by first | with_reducible assumption | go_simp, by first | with_reducible assumption | go_simp, by first | with_reducible assumption | go_simp, by first | with_reducible assumption | go_simp, by first | with_reducible assumption | go_simp, by first | with_reducible assumption | go_simp, by first | with_reducible assumption | go_simp, by first | with_reducible assumption | go_simp, by first | with_reducible assumption | go_simp, by repeat (first | with_reducible exact Below.refl _ _ | with_reducible exact B8 | with_reducible apply below_drewN | with_reducible apply Below.drew | (with_reducible refine Below.alloc ?_ (by first | (simp; done) | (simp; omega) | omega) _) | (with_reducible refine Below.setCell ?_ (by first | (simp; done) | (simp; omega) | omega) _)), by first | with_reducible assumption | (simp; done) | (simp; omega)⟩ ?_ ?_
  · rintro W ⟨k9_b2_0, g9_b2_0, k9_b2_1, g9_b2_1, k9_b2_2, g9_b2_2, k9_b2_3, g9_b2_3, k9_b3_0, g9_b3_0, k9_b3_1, g9_b3_1, k9_b3_2, g9_b3_2, k9_b3_3, g9_b3_3, k9_g5_0, g9_g5_0, k9_g5_1, g9_g5_1, k9_g5_2, g9_g5_2, k9_g5_3, g9_g5_3, k9_g6_0, g9_g6_0, k9_g6_1, g9_g6_1, k9_g6_2, g9_g6_2, k9_g6_3, g9_g6_3, k9_g7_0, g9_g7_0, k9_g7_1, g9_g7_1, k9_g7_2, g9_g7_2, k9_g7_3, g9_g7_3, k9_g8_0, g9_g8_0, k9_g8_1, g9_g8_1, k9_g8_2, g9_g8_2, k9_g8_3, g9_g8_3, k9_g9_0, g9_g9_0, k9_g9_1, g9_g9_1, k9_g9_2, g9_g9_2, k9_g9_3, g9_g9_3, B9, z9⟩; exact ⟨k9_b2_0, g9_b2_0, k9_b2_1, g9_b2_1, k9_b2_2, g9_b2_2, k9_b2_3, g9_b2_3, k9_b3_0, g9_b3_0, k9_b3_1, g9_b3_1, k9_b3_2, g9_b3_2, k9_b3_3, g9_b3_3, k9_g5_0, g9_g5_0, k9_g5_1, g9_g5_1, k9_g5_2, g9_g5_2, k9_g5_3, g9_g5_3, k9_g6_0, g9_g6_0, k9_g6_1, g9_g6_1, k9_g6_2, g9_g6_2, k9_g6_3, g9_g6_3, k9_g7_0, g9_g7_0, k9_g7_1, g9_g7_1, k9_g7_2, g9_g7_2, k9_g7_3, g9_g7_3, k9_g8_0, g9_g8_0, k9_g8_1, g9_g8_1, k9_g8_2, g9_g8_2, k9_g8_3, g9_g8_3, k9_g9_0, g9_g9_0, k9_g9_1, g9_g9_1, k9_g9_2, g9_g9_2, k9_g9_3, g9_g9_3⟩
  (try clear B8)
  (try clear z8)
  (try clear k8_b2_0)
  (try clear g8_b2_0)
  (try clear k8_b2_1)
  (try clear g8_b2_1)
  (try clear k8_b2_2)
  (try clear g8_b2_2)
  (try clear k8_b2_3)
  (try clear g8_b2_3)
  (try clear k8_b3_0)
  (try clear g8_b3_0)
  (try clear k8_b3_1)
  (try clear g8_b3_1)
  (try clear k8_b3_2)
  (try clear g8_b3_2)
  (try clear k8_b3_3)
  (try clear g8_b3_3)
  (try clear k8_g5_0)
  (try clear g8_g5_0)
  (try clear k8_g5_1)
  (try clear g8_g5_1)
  (try clear k8_g5_2)
  (try clear g8_g5_2)
  (try clear k8_g5_3)
  (try clear g8_g5_3)
  (try clear k8_g6_0)
  (try clear g8_g6_0)
  (try clear k8_g6_1)
  (try clear g8_g6_1)
  (try clear k8_g6_2)
  (try clear g8_g6_2)
  (try clear k8_g6_3)
  (try clear g8_g6_3)
  (try clear k8_g7_0)
  (try clear g8_g7_0)
  (try clear k8_g7_1)
  (try clear g8_g7_1)
  (try clear k8_g7_2)
  (try clear g8_g7_2)
  (try clear k8_g7_3)
  (try clear g8_g7_3)
  (try clear k8_g8_0)
  (try clear g8_g8_0)
  (try clear k8_g8_1)
  (try clear g8_g8_1)
  (try clear k8_g8_2)
  (try clear g8_g8_2)
  (try clear k8_g8_3)
  (try clear g8_g8_3)
  (try clear k8_g9_0)
  (try clear g8_g9_0)
  (try clear k8_g9_1)
  (try clear g8_g9_1)
  (try clear k8_g9_2)
  (try clear g8_g9_2)
  (try clear k8_g9_3)
  (try clear g8_g9_3)
  (try clear q8_b2)
  (try clear x8_b2)
  (try clear y8_b2)
  (try clear q8_b3)
  (try clear x8_b3)
  (try clear y8_b3)
  (try clear q8_g5)
  (try clear x8_g5)
  (try clear y8_g5)
  (try clear q8_g6)
  (try clear x8_g6)
  (try clear y8_g6)
  (try clear q8_g7)
  (try clear x8_g7)
  (try clear y8_g7)
  (try clear q8_g8)
  (try clear x8_g8)
  (try clear y8_g8)
  (try clear q8_g9)
  (try clear x8_g9)
  (try clear y8_g9)
  rintro w9 ⟨k9_b2_0, g9_b2_0, k9_b2_1, g9_b2_1, k9_b2_2, g9_b2_2, k9_b2_3, g9_b2_3, k9_b3_0, g9_b3_0, k9_b3_1, g9_b3_1, k9_b3_2, g9_b3_2, k9_b3_3, g9_b3_3, k9_g5_0, g9_g5_0, k9_g5_1, g9_g5_1, k9_g5_2, g9_g5_2, k9_g5_3, g9_g5_3, k9_g6_0, g9_g6_0, k9_g6_1, g9_g6_1, k9_g6_2, g9_g6_2, k9_g6_3, g9_g6_3, k9_g7_0, g9_g7_0, k9_g7_1, g9_g7_1, k9_g7_2, g9_g7_2, k9_g7_3, g9_g7_3, k9_g8_0, g9_g8_0, k9_g8_1, g9_g8_1, k9_g8_2, g9_g8_2, k9_g8_3, g9_g8_3, k9_g9_0, g9_g9_0, k9_g9_1, g9_g9_1, k9_g9_2, g9_g9_2, k9_g9_3, g9_g9_3, B9, z9⟩ gg
  simp only [List.take_succ_cons, List.take_zero, List.drop_succ_cons, List.drop_zero, List.cons_append, List.nil_append, List.append_nil]
  refine obe_val (by rfl) ?_ ?_
  · clear k9_b2_0 g9_b2_0 k9_b2_1 g9_b2_1 k9_b2_2 g9_b2_2 k9_b2_3 g9_b2_3 k9_b3_0 g9_b3_0 k9_b3_1 g9_b3_1 k9_b3_2 g9_b3_2 k9_b3_3 g9_b3_3 k9_g5_0 g9_g5_0 k9_g5_1 g9_g5_1 k9_g5_2 g9_g5_2 k9_g5_3 g9_g5_3 k9_g6_0 g9_g6_0 k9_g6_1 g9_g6_1 k9_g6_2 g9_g6_2 k9_g6_3 g9_g6_3 k9_g7_0 g9_g7_0 k9_g7_1 g9_g7_1 k9_g7_2 g9_g7_2 k9_g7_3 g9_g7_3 k9_g8_0 g9_g8_0 k9_g8_1 g9_g8_1 k9_g8_2 g9_g8_2 k9_g8_3 g9_g8_3 k9_g9_0 g9_g9_0 k9_g9_1 g9_g9_1 k9_g9_2 g9_g9_2 k9_g9_3 g9_g9_3 B9 z9; intro f hf; have u6 : f 6 = (.pointer (some ⟨g6, 0, none⟩)) := (by rw [← hf]; rfl); clear hf; rintro w' ⟨h0, h1, h2, h3, h4, h5, h6, h7, h8, h9, h10, h11, h12, h13, h14, h15, h16, h17, h18, h19, h20, h21, h22, h23, h24, h25, h26, h27, h28, h29, h30, h31, h32, h33, h34, h35, h36, h37, h38, h39, h40, h41, h42, h43, h44, h45, h46, h47, h48, h49, h50, h51, h52, h53, h54, h55⟩; go_simp; try exact IntWalk.i64_in _ (by omega)
  refine obe_val (by rfl) ?_ ?_
  · clear k9_b2_0 g9_b2_0 k9_b2_1 g9_b2_1 k9_b2_2 g9_b2_2 k9_b2_3 g9_b2_3 k9_b3_0 g9_b3_0 k9_b3_1 g9_b3_1 k9_b3_2 g9_b3_2 k9_b3_3 g9_b3_3 k9_g5_0 g9_g5_0 k9_g5_1 g9_g5_1 k9_g5_2 g9_g5_2 k9_g5_3 g9_g5_3 k9_g6_0 g9_g6_0 k9_g6_1 g9_g6_1 k9_g6_2 g9_g6_2 k9_g6_3 g9_g6_3 k9_g7_0 g9_g7_0 k9_g7_1 g9_g7_1 k9_g7_2 g9_g7_2 k9_g7_3 g9_g7_3 k9_g8_0 g9_g8_0 k9_g8_1 g9_g8_1 k9_g8_2 g9_g8_2 k9_g8_3 g9_g8_3 k9_g9_0 g9_g9_0 k9_g9_1 g9_g9_1 k9_g9_2 g9_g9_2 k9_g9_3 g9_g9_3 B9 z9; intro f hf; have u121 : f 121 = (.pointer (some ⟨g6, 3, none⟩)) := (by rw [← hf]; rfl); clear hf; rintro w' ⟨h0, h1, h2, h3, h4, h5, h6, h7, h8, h9, h10, h11, h12, h13, h14, h15, h16, h17, h18, h19, h20, h21, h22, h23, h24, h25, h26, h27, h28, h29, h30, h31, h32, h33, h34, h35, h36, h37, h38, h39, h40, h41, h42, h43, h44, h45, h46, h47, h48, h49, h50, h51, h52, h53, h54, h55⟩; go_simp; try exact IntWalk.i64_in _ (by omega)
  refine obe_val (by rfl) ?_ ?_
  · clear k9_b2_0 g9_b2_0 k9_b2_1 g9_b2_1 k9_b2_2 g9_b2_2 k9_b2_3 g9_b2_3 k9_b3_0 g9_b3_0 k9_b3_1 g9_b3_1 k9_b3_2 g9_b3_2 k9_b3_3 g9_b3_3 k9_g5_0 g9_g5_0 k9_g5_1 g9_g5_1 k9_g5_2 g9_g5_2 k9_g5_3 g9_g5_3 k9_g6_0 g9_g6_0 k9_g6_1 g9_g6_1 k9_g6_2 g9_g6_2 k9_g6_3 g9_g6_3 k9_g7_0 g9_g7_0 k9_g7_1 g9_g7_1 k9_g7_2 g9_g7_2 k9_g7_3 g9_g7_3 k9_g8_0 g9_g8_0 k9_g8_1 g9_g8_1 k9_g8_2 g9_g8_2 k9_g8_3 g9_g8_3 k9_g9_0 g9_g9_0 k9_g9_1 g9_g9_1 k9_g9_2 g9_g9_2 k9_g9_3 g9_g9_3 B9 z9; intro f hf; have u122 : f 122 = (.int .u8 255) := (by rw [← hf]; rfl); clear hf; rintro w' ⟨h0, h1, h2, h3, h4, h5, h6, h7, h8, h9, h10, h11, h12, h13, h14, h15, h16, h17, h18, h19, h20, h21, h22, h23, h24, h25, h26, h27, h28, h29, h30, h31, h32, h33, h34, h35, h36, h37, h38, h39, h40, h41, h42, h43, h44, h45, h46, h47, h48, h49, h50, h51, h52, h53, h54, h55⟩; go_simp; try exact IntWalk.i64_in _ (by omega)
  refine obe_val (by rfl) ?_ ?_
  · clear k9_b2_0 g9_b2_0 k9_b2_1 g9_b2_1 k9_b2_2 g9_b2_2 k9_b2_3 g9_b2_3 k9_b3_0 g9_b3_0 k9_b3_1 g9_b3_1 k9_b3_2 g9_b3_2 k9_b3_3 g9_b3_3 k9_g5_0 g9_g5_0 k9_g5_1 g9_g5_1 k9_g5_2 g9_g5_2 k9_g5_3 g9_g5_3 k9_g6_0 g9_g6_0 k9_g6_1 g9_g6_1 k9_g6_2 g9_g6_2 k9_g6_3 g9_g6_3 k9_g7_0 g9_g7_0 k9_g7_1 g9_g7_1 k9_g7_2 g9_g7_2 k9_g7_3 g9_g7_3 k9_g8_0 g9_g8_0 k9_g8_1 g9_g8_1 k9_g8_2 g9_g8_2 k9_g8_3 g9_g8_3 k9_g9_0 g9_g9_0 k9_g9_1 g9_g9_1 k9_g9_2 g9_g9_2 k9_g9_3 g9_g9_3 B9 z9; intro f hf; have u123 : f 123 = (.bool false) := (by rw [← hf]; rfl); clear hf; rintro w' ⟨h0, h1, h2, h3, h4, h5, h6, h7, h8, h9, h10, h11, h12, h13, h14, h15, h16, h17, h18, h19, h20, h21, h22, h23, h24, h25, h26, h27, h28, h29, h30, h31, h32, h33, h34, h35, h36, h37, h38, h39, h40, h41, h42, h43, h44, h45, h46, h47, h48, h49, h50, h51, h52, h53, h54, h55⟩; go_simp; try exact IntWalk.i64_in _ (by omega)
  refine obe_val (by rfl) ?_ ?_
  · clear k9_b2_0 g9_b2_0 k9_b2_1 g9_b2_1 k9_b2_2 g9_b2_2 k9_b2_3 g9_b2_3 k9_b3_0 g9_b3_0 k9_b3_1 g9_b3_1 k9_b3_2 g9_b3_2 k9_b3_3 g9_b3_3 k9_g5_0 g9_g5_0 k9_g5_1 g9_g5_1 k9_g5_2 g9_g5_2 k9_g5_3 g9_g5_3 k9_g6_0 g9_g6_0 k9_g6_1 g9_g6_1 k9_g6_2 g9_g6_2 k9_g6_3 g9_g6_3 k9_g7_0 g9_g7_0 k9_g7_1 g9_g7_1 k9_g7_2 g9_g7_2 k9_g7_3 g9_g7_3 k9_g8_0 g9_g8_0 k9_g8_1 g9_g8_1 k9_g8_2 g9_g8_2 k9_g8_3 g9_g8_3 k9_g9_0 g9_g9_0 k9_g9_1 g9_g9_1 k9_g9_2 g9_g9_2 k9_g9_3 g9_g9_3 B9 z9; intro f hf; have u7 : f 7 = (.pointer (some ⟨g7, 0, none⟩)) := (by rw [← hf]; rfl); clear hf; rintro w' ⟨h0, h1, h2, h3, h4, h5, h6, h7, h8, h9, h10, h11, h12, h13, h14, h15, h16, h17, h18, h19, h20, h21, h22, h23, h24, h25, h26, h27, h28, h29, h30, h31, h32, h33, h34, h35, h36, h37, h38, h39, h40, h41, h42, h43, h44, h45, h46, h47, h48, h49, h50, h51, h52, h53, h54, h55⟩; go_simp; try exact IntWalk.i64_in _ (by omega)
  refine obe_val (by rfl) ?_ ?_
  · clear k9_b2_0 g9_b2_0 k9_b2_1 g9_b2_1 k9_b2_2 g9_b2_2 k9_b2_3 g9_b2_3 k9_b3_0 g9_b3_0 k9_b3_1 g9_b3_1 k9_b3_2 g9_b3_2 k9_b3_3 g9_b3_3 k9_g5_0 g9_g5_0 k9_g5_1 g9_g5_1 k9_g5_2 g9_g5_2 k9_g5_3 g9_g5_3 k9_g6_0 g9_g6_0 k9_g6_1 g9_g6_1 k9_g6_2 g9_g6_2 k9_g6_3 g9_g6_3 k9_g7_0 g9_g7_0 k9_g7_1 g9_g7_1 k9_g7_2 g9_g7_2 k9_g7_3 g9_g7_3 k9_g8_0 g9_g8_0 k9_g8_1 g9_g8_1 k9_g8_2 g9_g8_2 k9_g8_3 g9_g8_3 k9_g9_0 g9_g9_0 k9_g9_1 g9_g9_1 k9_g9_2 g9_g9_2 k9_g9_3 g9_g9_3 B9 z9; intro f hf; have u5 : f 5 = (.pointer (some ⟨g5, 0, none⟩)) := (by rw [← hf]; rfl); clear hf; rintro w' ⟨h0, h1, h2, h3, h4, h5, h6, h7, h8, h9, h10, h11, h12, h13, h14, h15, h16, h17, h18, h19, h20, h21, h22, h23, h24, h25, h26, h27, h28, h29, h30, h31, h32, h33, h34, h35, h36, h37, h38, h39, h40, h41, h42, h43, h44, h45, h46, h47, h48, h49, h50, h51, h52, h53, h54, h55⟩; go_simp; try exact IntWalk.i64_in _ (by omega)
  refine obe_val (by rfl) ?_ ?_
  · clear k9_b2_0 g9_b2_0 k9_b2_1 g9_b2_1 k9_b2_2 g9_b2_2 k9_b2_3 g9_b2_3 k9_b3_0 g9_b3_0 k9_b3_1 g9_b3_1 k9_b3_2 g9_b3_2 k9_b3_3 g9_b3_3 k9_g5_0 g9_g5_0 k9_g5_1 g9_g5_1 k9_g5_2 g9_g5_2 k9_g5_3 g9_g5_3 k9_g6_0 g9_g6_0 k9_g6_1 g9_g6_1 k9_g6_2 g9_g6_2 k9_g6_3 g9_g6_3 k9_g7_0 g9_g7_0 k9_g7_1 g9_g7_1 k9_g7_2 g9_g7_2 k9_g7_3 g9_g7_3 k9_g8_0 g9_g8_0 k9_g8_1 g9_g8_1 k9_g8_2 g9_g8_2 k9_g8_3 g9_g8_3 k9_g9_0 g9_g9_0 k9_g9_1 g9_g9_1 k9_g9_2 g9_g9_2 k9_g9_3 g9_g9_3 B9 z9; intro f hf; have u125 : f 125 = (.agg #[.int .u8 cr, .int .u8 cg, .int .u8 cb, .int .u8 a]) := (by rw [← hf]; rfl); have u126 : f 126 = (.agg #[.int .u8 cr, .int .u8 cg, .int .u8 cb, .int .u8 a]) := (by rw [← hf]; rfl); clear hf; rintro w' ⟨h0, h1, h2, h3, h4, h5, h6, h7, h8, h9, h10, h11, h12, h13, h14, h15, h16, h17, h18, h19, h20, h21, h22, h23, h24, h25, h26, h27, h28, h29, h30, h31, h32, h33, h34, h35, h36, h37, h38, h39, h40, h41, h42, h43, h44, h45, h46, h47, h48, h49, h50, h51, h52, h53, h54, h55⟩; go_simp; try exact IntWalk.i64_in _ (by omega)
  refine obe_val (by rfl) ?_ ?_
  · clear k9_b2_0 g9_b2_0 k9_b2_1 g9_b2_1 k9_b2_2 g9_b2_2 k9_b2_3 g9_b2_3 k9_b3_0 g9_b3_0 k9_b3_1 g9_b3_1 k9_b3_2 g9_b3_2 k9_b3_3 g9_b3_3 k9_g5_0 g9_g5_0 k9_g5_1 g9_g5_1 k9_g5_2 g9_g5_2 k9_g5_3 g9_g5_3 k9_g6_0 g9_g6_0 k9_g6_1 g9_g6_1 k9_g6_2 g9_g6_2 k9_g6_3 g9_g6_3 k9_g7_0 g9_g7_0 k9_g7_1 g9_g7_1 k9_g7_2 g9_g7_2 k9_g7_3 g9_g7_3 k9_g8_0 g9_g8_0 k9_g8_1 g9_g8_1 k9_g8_2 g9_g8_2 k9_g8_3 g9_g8_3 k9_g9_0 g9_g9_0 k9_g9_1 g9_g9_1 k9_g9_2 g9_g9_2 k9_g9_3 g9_g9_3 B9 z9; intro f hf; have u127 : f 127 = (.bool true) := (by rw [← hf]; rfl); clear hf; rintro w' ⟨h0, h1, h2, h3, h4, h5, h6, h7, h8, h9, h10, h11, h12, h13, h14, h15, h16, h17, h18, h19, h20, h21, h22, h23, h24, h25, h26, h27, h28, h29, h30, h31, h32, h33, h34, h35, h36, h37, h38, h39, h40, h41, h42, h43, h44, h45, h46, h47, h48, h49, h50, h51, h52, h53, h54, h55⟩; go_simp; try exact IntWalk.i64_in _ (by omega)
  refine obe_val (by rfl) ?_ ?_
  · clear k9_b2_0 g9_b2_0 k9_b2_1 g9_b2_1 k9_b2_2 g9_b2_2 k9_b2_3 g9_b2_3 k9_b3_0 g9_b3_0 k9_b3_1 g9_b3_1 k9_b3_2 g9_b3_2 k9_b3_3 g9_b3_3 k9_g5_0 g9_g5_0 k9_g5_1 g9_g5_1 k9_g5_2 g9_g5_2 k9_g5_3 g9_g5_3 k9_g6_0 g9_g6_0 k9_g6_1 g9_g6_1 k9_g6_2 g9_g6_2 k9_g6_3 g9_g6_3 k9_g7_0 g9_g7_0 k9_g7_1 g9_g7_1 k9_g7_2 g9_g7_2 k9_g7_3 g9_g7_3 k9_g8_0 g9_g8_0 k9_g8_1 g9_g8_1 k9_g8_2 g9_g8_2 k9_g8_3 g9_g8_3 k9_g9_0 g9_g9_0 k9_g9_1 g9_g9_1 k9_g9_2 g9_g9_2 k9_g9_3 g9_g9_3 B9 z9; intro f hf; have u8 : f 8 = (.pointer (some ⟨g8, 0, none⟩)) := (by rw [← hf]; rfl); clear hf; rintro w' ⟨h0, h1, h2, h3, h4, h5, h6, h7, h8, h9, h10, h11, h12, h13, h14, h15, h16, h17, h18, h19, h20, h21, h22, h23, h24, h25, h26, h27, h28, h29, h30, h31, h32, h33, h34, h35, h36, h37, h38, h39, h40, h41, h42, h43, h44, h45, h46, h47, h48, h49, h50, h51, h52, h53, h54, h55⟩; go_simp; try exact IntWalk.i64_in _ (by omega)
  refine obe_val (by rfl) ?_ ?_
  · clear k9_b2_0 g9_b2_0 k9_b2_1 g9_b2_1 k9_b2_2 g9_b2_2 k9_b2_3 g9_b2_3 k9_b3_0 g9_b3_0 k9_b3_1 g9_b3_1 k9_b3_2 g9_b3_2 k9_b3_3 g9_b3_3 k9_g5_0 g9_g5_0 k9_g5_1 g9_g5_1 k9_g5_2 g9_g5_2 k9_g5_3 g9_g5_3 k9_g6_0 g9_g6_0 k9_g6_1 g9_g6_1 k9_g6_2 g9_g6_2 k9_g6_3 g9_g6_3 k9_g7_0 g9_g7_0 k9_g7_1 g9_g7_1 k9_g7_2 g9_g7_2 k9_g7_3 g9_g7_3 k9_g8_0 g9_g8_0 k9_g8_1 g9_g8_1 k9_g8_2 g9_g8_2 k9_g8_3 g9_g8_3 k9_g9_0 g9_g9_0 k9_g9_1 g9_g9_1 k9_g9_2 g9_g9_2 k9_g9_3 g9_g9_3 B9 z9; intro f hf; clear hf; rintro w' ⟨h0, h1, h2, h3, h4, h5, h6, h7, h8, h9, h10, h11, h12, h13, h14, h15, h16, h17, h18, h19, h20, h21, h22, h23, h24, h25, h26, h27, h28, h29, h30, h31, h32, h33, h34, h35, h36, h37, h38, h39, h40, h41, h42, h43, h44, h45, h46, h47, h48, h49, h50, h51, h52, h53, h54, h55⟩; go_simp; try exact IntWalk.i64_in _ (by omega)
  refine obe_val (by rfl) ?_ ?_
  · clear k9_b2_0 g9_b2_0 k9_b2_1 g9_b2_1 k9_b2_2 g9_b2_2 k9_b2_3 g9_b2_3 k9_b3_0 g9_b3_0 k9_b3_1 g9_b3_1 k9_b3_2 g9_b3_2 k9_b3_3 g9_b3_3 k9_g5_0 g9_g5_0 k9_g5_1 g9_g5_1 k9_g5_2 g9_g5_2 k9_g5_3 g9_g5_3 k9_g6_0 g9_g6_0 k9_g6_1 g9_g6_1 k9_g6_2 g9_g6_2 k9_g6_3 g9_g6_3 k9_g7_0 g9_g7_0 k9_g7_1 g9_g7_1 k9_g7_2 g9_g7_2 k9_g7_3 g9_g7_3 k9_g8_0 g9_g8_0 k9_g8_1 g9_g8_1 k9_g8_2 g9_g8_2 k9_g8_3 g9_g8_3 k9_g9_0 g9_g9_0 k9_g9_1 g9_g9_1 k9_g9_2 g9_g9_2 k9_g9_3 g9_g9_3 B9 z9; intro f hf; have u129 : f 129 = (.agg #[.int .u8 0, .int .u8 0, .int .u8 0, .int .u8 0]) := (by rw [← hf]; rfl); have u130 : f 130 = (.agg #[.int .u8 0, .int .u8 0, .int .u8 0, .int .u8 0]) := (by rw [← hf]; rfl); clear hf; rintro w' ⟨h0, h1, h2, h3, h4, h5, h6, h7, h8, h9, h10, h11, h12, h13, h14, h15, h16, h17, h18, h19, h20, h21, h22, h23, h24, h25, h26, h27, h28, h29, h30, h31, h32, h33, h34, h35, h36, h37, h38, h39, h40, h41, h42, h43, h44, h45, h46, h47, h48, h49, h50, h51, h52, h53, h54, h55⟩; go_simp; try exact IntWalk.i64_in _ (by omega)
  refine obe_val (by rfl) ?_ ?_
  · clear k9_b2_0 g9_b2_0 k9_b2_1 g9_b2_1 k9_b2_2 g9_b2_2 k9_b2_3 g9_b2_3 k9_b3_0 g9_b3_0 k9_b3_1 g9_b3_1 k9_b3_2 g9_b3_2 k9_b3_3 g9_b3_3 k9_g5_0 g9_g5_0 k9_g5_1 g9_g5_1 k9_g5_2 g9_g5_2 k9_g5_3 g9_g5_3 k9_g6_0 g9_g6_0 k9_g6_1 g9_g6_1 k9_g6_2 g9_g6_2 k9_g6_3 g9_g6_3 k9_g7_0 g9_g7_0 k9_g7_1 g9_g7_1 k9_g7_2 g9_g7_2 k9_g7_3 g9_g7_3 k9_g8_0 g9_g8_0 k9_g8_1 g9_g8_1 k9_g8_2 g9_g8_2 k9_g8_3 g9_g8_3 k9_g9_0 g9_g9_0 k9_g9_1 g9_g9_1 k9_g9_2 g9_g9_2 k9_g9_3 g9_g9_3 B9 z9; intro f hf; have u128 : f 128 = (.bool true) := (by rw [← hf]; rfl); have u131 : f 131 = (.bool true) := (by rw [← hf]; rfl); clear hf; rintro w' ⟨h0, h1, h2, h3, h4, h5, h6, h7, h8, h9, h10, h11, h12, h13, h14, h15, h16, h17, h18, h19, h20, h21, h22, h23, h24, h25, h26, h27, h28, h29, h30, h31, h32, h33, h34, h35, h36, h37, h38, h39, h40, h41, h42, h43, h44, h45, h46, h47, h48, h49, h50, h51, h52, h53, h54, h55⟩; go_simp; try exact IntWalk.i64_in _ (by omega)
  refine obe_val (by rfl) ?_ ?_
  · clear k9_b2_0 g9_b2_0 k9_b2_1 g9_b2_1 k9_b2_2 g9_b2_2 k9_b2_3 g9_b2_3 k9_b3_0 g9_b3_0 k9_b3_1 g9_b3_1 k9_b3_2 g9_b3_2 k9_b3_3 g9_b3_3 k9_g5_0 g9_g5_0 k9_g5_1 g9_g5_1 k9_g5_2 g9_g5_2 k9_g5_3 g9_g5_3 k9_g6_0 g9_g6_0 k9_g6_1 g9_g6_1 k9_g6_2 g9_g6_2 k9_g6_3 g9_g6_3 k9_g7_0 g9_g7_0 k9_g7_1 g9_g7_1 k9_g7_2 g9_g7_2 k9_g7_3 g9_g7_3 k9_g8_0 g9_g8_0 k9_g8_1 g9_g8_1 k9_g8_2 g9_g8_2 k9_g8_3 g9_g8_3 k9_g9_0 g9_g9_0 k9_g9_1 g9_g9_1 k9_g9_2 g9_g9_2 k9_g9_3 g9_g9_3 B9 z9; intro f hf; have u132 : f 132 = (.bool true) := (by rw [← hf]; rfl); clear hf; rintro w' ⟨h0, h1, h2, h3, h4, h5, h6, h7, h8, h9, h10, h11, h12, h13, h14, h15, h16, h17, h18, h19, h20, h21, h22, h23, h24, h25, h26, h27, h28, h29, h30, h31, h32, h33, h34, h35, h36, h37, h38, h39, h40, h41, h42, h43, h44, h45, h46, h47, h48, h49, h50, h51, h52, h53, h54, h55⟩; go_simp; try exact IntWalk.i64_in _ (by omega)
  refine obe_val (by rfl) ?_ ?_
  · clear k9_b2_0 g9_b2_0 k9_b2_1 g9_b2_1 k9_b2_2 g9_b2_2 k9_b2_3 g9_b2_3 k9_b3_0 g9_b3_0 k9_b3_1 g9_b3_1 k9_b3_2 g9_b3_2 k9_b3_3 g9_b3_3 k9_g5_0 g9_g5_0 k9_g5_1 g9_g5_1 k9_g5_2 g9_g5_2 k9_g5_3 g9_g5_3 k9_g6_0 g9_g6_0 k9_g6_1 g9_g6_1 k9_g6_2 g9_g6_2 k9_g6_3 g9_g6_3 k9_g7_0 g9_g7_0 k9_g7_1 g9_g7_1 k9_g7_2 g9_g7_2 k9_g7_3 g9_g7_3 k9_g8_0 g9_g8_0 k9_g8_1 g9_g8_1 k9_g8_2 g9_g8_2 k9_g8_3 g9_g8_3 k9_g9_0 g9_g9_0 k9_g9_1 g9_g9_1 k9_g9_2 g9_g9_2 k9_g9_3 g9_g9_3 B9 z9; intro f hf; have u2 : f 2 = (.pointer (some ⟨w.heap.size, 0, none⟩)) := (by rw [← hf]; rfl); clear hf; rintro w' ⟨h0, h1, h2, h3, h4, h5, h6, h7, h8, h9, h10, h11, h12, h13, h14, h15, h16, h17, h18, h19, h20, h21, h22, h23, h24, h25, h26, h27, h28, h29, h30, h31, h32, h33, h34, h35, h36, h37, h38, h39, h40, h41, h42, h43, h44, h45, h46, h47, h48, h49, h50, h51, h52, h53, h54, h55⟩; go_simp; try exact IntWalk.i64_in _ (by omega)
  refine obe_val (by rfl) ?_ ?_
  · clear k9_b2_0 g9_b2_0 k9_b2_1 g9_b2_1 k9_b2_2 g9_b2_2 k9_b2_3 g9_b2_3 k9_b3_0 g9_b3_0 k9_b3_1 g9_b3_1 k9_b3_2 g9_b3_2 k9_b3_3 g9_b3_3 k9_g5_0 g9_g5_0 k9_g5_1 g9_g5_1 k9_g5_2 g9_g5_2 k9_g5_3 g9_g5_3 k9_g6_0 g9_g6_0 k9_g6_1 g9_g6_1 k9_g6_2 g9_g6_2 k9_g6_3 g9_g6_3 k9_g7_0 g9_g7_0 k9_g7_1 g9_g7_1 k9_g7_2 g9_g7_2 k9_g7_3 g9_g7_3 k9_g8_0 g9_g8_0 k9_g8_1 g9_g8_1 k9_g8_2 g9_g8_2 k9_g8_3 g9_g8_3 k9_g9_0 g9_g9_0 k9_g9_1 g9_g9_1 k9_g9_2 g9_g9_2 k9_g9_3 g9_g9_3 B9 z9; intro f hf; have u3 : f 3 = (.pointer (some ⟨w.heap.size + 1, 0, none⟩)) := (by rw [← hf]; rfl); clear hf; rintro w' ⟨h0, h1, h2, h3, h4, h5, h6, h7, h8, h9, h10, h11, h12, h13, h14, h15, h16, h17, h18, h19, h20, h21, h22, h23, h24, h25, h26, h27, h28, h29, h30, h31, h32, h33, h34, h35, h36, h37, h38, h39, h40, h41, h42, h43, h44, h45, h46, h47, h48, h49, h50, h51, h52, h53, h54, h55⟩; go_simp; try exact IntWalk.i64_in _ (by omega)
  refine obe_call (by rfl) ?_ ?_ ?_
  · clear k9_b2_0 g9_b2_0 k9_b2_1 g9_b2_1 k9_b2_2 g9_b2_2 k9_b2_3 g9_b2_3 k9_b3_0 g9_b3_0 k9_b3_1 g9_b3_1 k9_b3_2 g9_b3_2 k9_b3_3 g9_b3_3 k9_g5_0 g9_g5_0 k9_g5_1 g9_g5_1 k9_g5_2 g9_g5_2 k9_g5_3 g9_g5_3 k9_g6_0 g9_g6_0 k9_g6_1 g9_g6_1 k9_g6_2 g9_g6_2 k9_g6_3 g9_g6_3 k9_g7_0 g9_g7_0 k9_g7_1 g9_g7_1 k9_g7_2 g9_g7_2 k9_g7_3 g9_g7_3 k9_g8_0 g9_g8_0 k9_g8_1 g9_g8_1 k9_g8_2 g9_g8_2 k9_g8_3 g9_g8_3 k9_g9_0 g9_g9_0 k9_g9_1 g9_g9_1 k9_g9_2 g9_g9_2 k9_g9_3 g9_g9_3 B9 z9; intro f hf; have u134 : f 134 = (.agg #[.int .u8 r, .int .u8 g, .int .u8 b, .int .u8 a]) := (by rw [← hf]; rfl); have u135 : f 135 = (.agg #[.int .u8 s, .int .u8 t, .int .u8 u, .int .u8 255]) := (by rw [← hf]; rfl); clear hf; intro w' _; simp only [execOp, resolve, invoke, rhoF_tmp, rhoF_func, rhoF_const, u134, u135, List.map_toArray, List.map_cons, List.map_nil]; go_simp
  · clear k9_b2_0 g9_b2_0 k9_b2_1 g9_b2_1 k9_b2_2 g9_b2_2 k9_b2_3 g9_b2_3 k9_b3_0 g9_b3_0 k9_b3_1 g9_b3_1 k9_b3_2 g9_b3_2 k9_b3_3 g9_b3_3 k9_g5_0 g9_g5_0 k9_g5_1 g9_g5_1 k9_g5_2 g9_g5_2 k9_g5_3 g9_g5_3 k9_g6_0 g9_g6_0 k9_g6_1 g9_g6_1 k9_g6_2 g9_g6_2 k9_g6_3 g9_g6_3 k9_g7_0 g9_g7_0 k9_g7_1 g9_g7_1 k9_g7_2 g9_g7_2 k9_g7_3 g9_g7_3 k9_g8_0 g9_g8_0 k9_g8_1 g9_g8_1 k9_g8_2 g9_g8_2 k9_g8_3 g9_g8_3 k9_g9_0 g9_g9_0 k9_g9_1 g9_g9_1 k9_g9_2 g9_g9_2 k9_g9_3 g9_g9_3 B9 z9; rintro w' ⟨h0, h1, h2, h3, h4, h5, h6, h7, h8, h9, h10, h11, h12, h13, h14, h15, h16, h17, h18, h19, h20, h21, h22, h23, h24, h25, h26, h27, h28, h29, h30, h31, h32, h33, h34, h35, h36, h37, h38, h39, h40, h41, h42, h43, h44, h45, h46, h47, h48, h49, h50, h51, h52, h53, h54, h55⟩; exact k6 _
  refine obe_val (by rfl) ?_ ?_
  · clear k9_b2_0 g9_b2_0 k9_b2_1 g9_b2_1 k9_b2_2 g9_b2_2 k9_b2_3 g9_b2_3 k9_b3_0 g9_b3_0 k9_b3_1 g9_b3_1 k9_b3_2 g9_b3_2 k9_b3_3 g9_b3_3 k9_g5_0 g9_g5_0 k9_g5_1 g9_g5_1 k9_g5_2 g9_g5_2 k9_g5_3 g9_g5_3 k9_g6_0 g9_g6_0 k9_g6_1 g9_g6_1 k9_g6_2 g9_g6_2 k9_g6_3 g9_g6_3 k9_g7_0 g9_g7_0 k9_g7_1 g9_g7_1 k9_g7_2 g9_g7_2 k9_g7_3 g9_g7_3 k9_g8_0 g9_g8_0 k9_g8_1 g9_g8_1 k9_g8_2 g9_g8_2 k9_g8_3 g9_g8_3 k9_g9_0 g9_g9_0 k9_g9_1 g9_g9_1 k9_g9_2 g9_g9_2 k9_g9_3 g9_g9_3 B9 z9; intro f hf; have u2 : f 2 = (.pointer (some ⟨w.heap.size, 0, none⟩)) := (by rw [← hf]; rfl); clear hf; rintro w' ⟨h0, h1, h2, h3, h4, h5, h6, h7, h8, h9, h10, h11, h12, h13, h14, h15, h16, h17, h18, h19, h20, h21, h22, h23, h24, h25, h26, h27, h28, h29, h30, h31, h32, h33, h34, h35, h36, h37, h38, h39, h40, h41, h42, h43, h44, h45, h46, h47, h48, h49, h50, h51, h52, h53, h54, h55⟩; go_simp; try exact IntWalk.i64_in _ (by omega)
  refine obe_val (by rfl) ?_ ?_
  · clear k9_b2_0 g9_b2_0 k9_b2_1 g9_b2_1 k9_b2_2 g9_b2_2 k9_b2_3 g9_b2_3 k9_b3_0 g9_b3_0 k9_b3_1 g9_b3_1 k9_b3_2 g9_b3_2 k9_b3_3 g9_b3_3 k9_g5_0 g9_g5_0 k9_g5_1 g9_g5_1 k9_g5_2 g9_g5_2 k9_g5_3 g9_g5_3 k9_g6_0 g9_g6_0 k9_g6_1 g9_g6_1 k9_g6_2 g9_g6_2 k9_g6_3 g9_g6_3 k9_g7_0 g9_g7_0 k9_g7_1 g9_g7_1 k9_g7_2 g9_g7_2 k9_g7_3 g9_g7_3 k9_g8_0 g9_g8_0 k9_g8_1 g9_g8_1 k9_g8_2 g9_g8_2 k9_g8_3 g9_g8_3 k9_g9_0 g9_g9_0 k9_g9_1 g9_g9_1 k9_g9_2 g9_g9_2 k9_g9_3 g9_g9_3 B9 z9; intro f hf; have u3 : f 3 = (.pointer (some ⟨w.heap.size + 1, 0, none⟩)) := (by rw [← hf]; rfl); clear hf; rintro w' ⟨h0, h1, h2, h3, h4, h5, h6, h7, h8, h9, h10, h11, h12, h13, h14, h15, h16, h17, h18, h19, h20, h21, h22, h23, h24, h25, h26, h27, h28, h29, h30, h31, h32, h33, h34, h35, h36, h37, h38, h39, h40, h41, h42, h43, h44, h45, h46, h47, h48, h49, h50, h51, h52, h53, h54, h55⟩; go_simp; try exact IntWalk.i64_in _ (by omega)
  refine obe_call (by rfl) ?_ ?_ ?_
  · clear k9_b2_0 g9_b2_0 k9_b2_1 g9_b2_1 k9_b2_2 g9_b2_2 k9_b2_3 g9_b2_3 k9_b3_0 g9_b3_0 k9_b3_1 g9_b3_1 k9_b3_2 g9_b3_2 k9_b3_3 g9_b3_3 k9_g5_0 g9_g5_0 k9_g5_1 g9_g5_1 k9_g5_2 g9_g5_2 k9_g5_3 g9_g5_3 k9_g6_0 g9_g6_0 k9_g6_1 g9_g6_1 k9_g6_2 g9_g6_2 k9_g6_3 g9_g6_3 k9_g7_0 g9_g7_0 k9_g7_1 g9_g7_1 k9_g7_2 g9_g7_2 k9_g7_3 g9_g7_3 k9_g8_0 g9_g8_0 k9_g8_1 g9_g8_1 k9_g8_2 g9_g8_2 k9_g8_3 g9_g8_3 k9_g9_0 g9_g9_0 k9_g9_1 g9_g9_1 k9_g9_2 g9_g9_2 k9_g9_3 g9_g9_3 B9 z9; intro f hf; have u137 : f 137 = (.agg #[.int .u8 r, .int .u8 g, .int .u8 b, .int .u8 a]) := (by rw [← hf]; rfl); have u138 : f 138 = (.agg #[.int .u8 s, .int .u8 t, .int .u8 u, .int .u8 255]) := (by rw [← hf]; rfl); clear hf; intro w' _; simp only [execOp, resolve, invoke, rhoF_tmp, rhoF_func, rhoF_const, u137, u138, List.map_toArray, List.map_cons, List.map_nil]; go_simp
  · clear k9_b2_0 g9_b2_0 k9_b2_1 g9_b2_1 k9_b2_2 g9_b2_2 k9_b2_3 g9_b2_3 k9_b3_0 g9_b3_0 k9_b3_1 g9_b3_1 k9_b3_2 g9_b3_2 k9_b3_3 g9_b3_3 k9_g5_0 g9_g5_0 k9_g5_1 g9_g5_1 k9_g5_2 g9_g5_2 k9_g5_3 g9_g5_3 k9_g6_0 g9_g6_0 k9_g6_1 g9_g6_1 k9_g6_2 g9_g6_2 k9_g6_3 g9_g6_3 k9_g7_0 g9_g7_0 k9_g7_1 g9_g7_1 k9_g7_2 g9_g7_2 k9_g7_3 g9_g7_3 k9_g8_0 g9_g8_0 k9_g8_1 g9_g8_1 k9_g8_2 g9_g8_2 k9_g8_3 g9_g8_3 k9_g9_0 g9_g9_0 k9_g9_1 g9_g9_1 k9_g9_2 g9_g9_2 k9_g9_3 g9_g9_3 B9 z9; rintro w' ⟨h0, h1, h2, h3, h4, h5, h6, h7, h8, h9, h10, h11, h12, h13, h14, h15, h16, h17, h18, h19, h20, h21, h22, h23, h24, h25, h26, h27, h28, h29, h30, h31, h32, h33, h34, h35, h36, h37, h38, h39, h40, h41, h42, h43, h44, h45, h46, h47, h48, h49, h50, h51, h52, h53, h54, h55⟩; exact k3 _
  refine obe_val (by rfl) ?_ ?_
  · clear k9_b2_0 g9_b2_0 k9_b2_1 g9_b2_1 k9_b2_2 g9_b2_2 k9_b2_3 g9_b2_3 k9_b3_0 g9_b3_0 k9_b3_1 g9_b3_1 k9_b3_2 g9_b3_2 k9_b3_3 g9_b3_3 k9_g5_0 g9_g5_0 k9_g5_1 g9_g5_1 k9_g5_2 g9_g5_2 k9_g5_3 g9_g5_3 k9_g6_0 g9_g6_0 k9_g6_1 g9_g6_1 k9_g6_2 g9_g6_2 k9_g6_3 g9_g6_3 k9_g7_0 g9_g7_0 k9_g7_1 g9_g7_1 k9_g7_2 g9_g7_2 k9_g7_3 g9_g7_3 k9_g8_0 g9_g8_0 k9_g8_1 g9_g8_1 k9_g8_2 g9_g8_2 k9_g8_3 g9_g8_3 k9_g9_0 g9_g9_0 k9_g9_1 g9_g9_1 k9_g9_2 g9_g9_2 k9_g9_3 g9_g9_3 B9 z9; intro f hf; have u136 : f 136 = (.agg #[.int .u8 v0, .int .u8 v1, .int .u8 v2, .int .u8 v3]) := (by rw [← hf]; rfl); have u139 : f 139 = (.agg #[.int .u8 v0, .int .u8 v1, .int .u8 v2, .int .u8 v3]) := (by rw [← hf]; rfl); clear hf; rintro w' ⟨h0, h1, h2, h3, h4, h5, h6, h7, h8, h9, h10, h11, h12, h13, h14, h15, h16, h17, h18, h19, h20, h21, h22, h23, h24, h25, h26, h27, h28, h29, h30, h31, h32, h33, h34, h35, h36, h37, h38, h39, h40, h41, h42, h43, h44, h45, h46, h47, h48, h49, h50, h51, h52, h53, h54, h55⟩; go_simp; try exact IntWalk.i64_in _ (by omega)
  refine obe_val (by rfl) ?_ ?_
  · clear k9_b2_0 g9_b2_0 k9_b2_1 g9_b2_1 k9_b2_2 g9_b2_2 k9_b2_3 g9_b2_3 k9_b3_0 g9_b3_0 k9_b3_1 g9_b3_1 k9_b3_2 g9_b3_2 k9_b3_3 g9_b3_3 k9_g5_0 g9_g5_0 k9_g5_1 g9_g5_1 k9_g5_2 g9_g5_2 k9_g5_3 g9_g5_3 k9_g6_0 g9_g6_0 k9_g6_1 g9_g6_1 k9_g6_2 g9_g6_2 k9_g6_3 g9_g6_3 k9_g7_0 g9_g7_0 k9_g7_1 g9_g7_1 k9_g7_2 g9_g7_2 k9_g7_3 g9_g7_3 k9_g8_0 g9_g8_0 k9_g8_1 g9_g8_1 k9_g8_2 g9_g8_2 k9_g8_3 g9_g8_3 k9_g9_0 g9_g9_0 k9_g9_1 g9_g9_1 k9_g9_2 g9_g9_2 k9_g9_3 g9_g9_3 B9 z9; intro f hf; have u133 : f 133 = (.bool true) := (by rw [← hf]; rfl); have u140 : f 140 = (.bool true) := (by rw [← hf]; rfl); clear hf; rintro w' ⟨h0, h1, h2, h3, h4, h5, h6, h7, h8, h9, h10, h11, h12, h13, h14, h15, h16, h17, h18, h19, h20, h21, h22, h23, h24, h25, h26, h27, h28, h29, h30, h31, h32, h33, h34, h35, h36, h37, h38, h39, h40, h41, h42, h43, h44, h45, h46, h47, h48, h49, h50, h51, h52, h53, h54, h55⟩; go_simp; try exact IntWalk.i64_in _ (by omega)
  refine obe_val (by rfl) ?_ ?_
  · clear k9_b2_0 g9_b2_0 k9_b2_1 g9_b2_1 k9_b2_2 g9_b2_2 k9_b2_3 g9_b2_3 k9_b3_0 g9_b3_0 k9_b3_1 g9_b3_1 k9_b3_2 g9_b3_2 k9_b3_3 g9_b3_3 k9_g5_0 g9_g5_0 k9_g5_1 g9_g5_1 k9_g5_2 g9_g5_2 k9_g5_3 g9_g5_3 k9_g6_0 g9_g6_0 k9_g6_1 g9_g6_1 k9_g6_2 g9_g6_2 k9_g6_3 g9_g6_3 k9_g7_0 g9_g7_0 k9_g7_1 g9_g7_1 k9_g7_2 g9_g7_2 k9_g7_3 g9_g7_3 k9_g8_0 g9_g8_0 k9_g8_1 g9_g8_1 k9_g8_2 g9_g8_2 k9_g8_3 g9_g8_3 k9_g9_0 g9_g9_0 k9_g9_1 g9_g9_1 k9_g9_2 g9_g9_2 k9_g9_3 g9_g9_3 B9 z9; intro f hf; have u124 : f 124 = (.bool false) := (by rw [← hf]; rfl); have u141 : f 141 = (.bool true) := (by rw [← hf]; rfl); clear hf; rintro w' ⟨h0, h1, h2, h3, h4, h5, h6, h7, h8, h9, h10, h11, h12, h13, h14, h15, h16, h17, h18, h19, h20, h21, h22, h23, h24, h25, h26, h27, h28, h29, h30, h31, h32, h33, h34, h35, h36, h37, h38, h39, h40, h41, h42, h43, h44, h45, h46, h47, h48, h49, h50, h51, h52, h53, h54, h55⟩; go_simp; try exact IntWalk.i64_in _ (by omega)
  refine obe_val (by rfl) ?_ ?_
  · clear k9_b2_0 g9_b2_0 k9_b2_1 g9_b2_1 k9_b2_2 g9_b2_2 k9_b2_3 g9_b2_3 k9_b3_0 g9_b3_0 k9_b3_1 g9_b3_1 k9_b3_2 g9_b3_2 k9_b3_3 g9_b3_3 k9_g5_0 g9_g5_0 k9_g5_1 g9_g5_1 k9_g5_2 g9_g5_2 k9_g5_3 g9_g5_3 k9_g6_0 g9_g6_0 k9_g6_1 g9_g6_1 k9_g6_2 g9_g6_2 k9_g6_3 g9_g6_3 k9_g7_0 g9_g7_0 k9_g7_1 g9_g7_1 k9_g7_2 g9_g7_2 k9_g7_3 g9_g7_3 k9_g8_0 g9_g8_0 k9_g8_1 g9_g8_1 k9_g8_2 g9_g8_2 k9_g8_3 g9_g8_3 k9_g9_0 g9_g9_0 k9_g9_1 g9_g9_1 k9_g9_2 g9_g9_2 k9_g9_3 g9_g9_3 B9 z9; intro f hf; have u142 : f 142 = (.bool true) := (by rw [← hf]; rfl); clear hf; rintro w' ⟨h0, h1, h2, h3, h4, h5, h6, h7, h8, h9, h10, h11, h12, h13, h14, h15, h16, h17, h18, h19, h20, h21, h22, h23, h24, h25, h26, h27, h28, h29, h30, h31, h32, h33, h34, h35, h36, h37, h38, h39, h40, h41, h42, h43, h44, h45, h46, h47, h48, h49, h50, h51, h52, h53, h54, h55⟩; go_simp; try exact IntWalk.i64_in _ (by omega)
  refine obe_val (by rfl) ?_ ?_
  · clear k9_b2_0 g9_b2_0 k9_b2_1 g9_b2_1 k9_b2_2 g9_b2_2 k9_b2_3 g9_b2_3 k9_b3_0 g9_b3_0 k9_b3_1 g9_b3_1 k9_b3_2 g9_b3_2 k9_b3_3 g9_b3_3 k9_g5_0 g9_g5_0 k9_g5_1 g9_g5_1 k9_g5_2 g9_g5_2 k9_g5_3 g9_g5_3 k9_g6_0 g9_g6_0 k9_g6_1 g9_g6_1 k9_g6_2 g9_g6_2 k9_g6_3 g9_g6_3 k9_g7_0 g9_g7_0 k9_g7_1 g9_g7_1 k9_g7_2 g9_g7_2 k9_g7_3 g9_g7_3 k9_g8_0 g9_g8_0 k9_g8_1 g9_g8_1 k9_g8_2 g9_g8_2 k9_g8_3 g9_g8_3 k9_g9_0 g9_g9_0 k9_g9_1 g9_g9_1 k9_g9_2 g9_g9_2 k9_g9_3 g9_g9_3 B9 z9; intro f hf; have u5 : f 5 = (.pointer (some ⟨g5, 0, none⟩)) := (by rw [← hf]; rfl); clear hf; rintro w' ⟨h0, h1, h2, h3, h4, h5, h6, h7, h8, h9, h10, h11, h12, h13, h14, h15, h16, h17, h18, h19, h20, h21, h22, h23, h24, h25, h26, h27, h28, h29, h30, h31, h32, h33, h34, h35, h36, h37, h38, h39, h40, h41, h42, h43, h44, h45, h46, h47, h48, h49, h50, h51, h52, h53, h54, h55⟩; go_simp; try exact IntWalk.i64_in _ (by omega)
  refine obe_val (by rfl) ?_ ?_
  · clear k9_b2_0 g9_b2_0 k9_b2_1 g9_b2_1 k9_b2_2 g9_b2_2 k9_b2_3 g9_b2_3 k9_b3_0 g9_b3_0 k9_b3_1 g9_b3_1 k9_b3_2 g9_b3_2 k9_b3_3 g9_b3_3 k9_g5_0 g9_g5_0 k9_g5_1 g9_g5_1 k9_g5_2 g9_g5_2 k9_g5_3 g9_g5_3 k9_g6_0 g9_g6_0 k9_g6_1 g9_g6_1 k9_g6_2 g9_g6_2 k9_g6_3 g9_g6_3 k9_g7_0 g9_g7_0 k9_g7_1 g9_g7_1 k9_g7_2 g9_g7_2 k9_g7_3 g9_g7_3 k9_g8_0 g9_g8_0 k9_g8_1 g9_g8_1 k9_g8_2 g9_g8_2 k9_g8_3 g9_g8_3 k9_g9_0 g9_g9_0 k9_g9_1 g9_g9_1 k9_g9_2 g9_g9_2 k9_g9_3 g9_g9_3 B9 z9; intro f hf; have u144 : f 144 = (.pointer (some ⟨g5, 3, none⟩)) := (by rw [← hf]; rfl); clear hf; rintro w' ⟨h0, h1, h2, h3, h4, h5, h6, h7, h8, h9, h10, h11, h12, h13, h14, h15, h16, h17, h18, h19, h20, h21, h22, h23, h24, h25, h26, h27, h28, h29, h30, h31, h32, h33, h34, h35, h36, h37, h38, h39, h40, h41, h42, h43, h44, h45, h46, h47, h48, h49, h50, h51, h52, h53, h54, h55⟩; go_simp; try exact IntWalk.i64_in _ (by omega)
  refine obe_val (by rfl) ?_ ?_
  · clear k9_b2_0 g9_b2_0 k9_b2_1 g9_b2_1 k9_b2_2 g9_b2_2 k9_b2_3 g9_b2_3 k9_b3_0 g9_b3_0 k9_b3_1 g9_b3_1 k9_b3_2 g9_b3_2 k9_b3_3 g9_b3_3 k9_g5_0 g9_g5_0 k9_g5_1 g9_g5_1 k9_g5_2 g9_g5_2 k9_g5_3 g9_g5_3 k9_g6_0 g9_g6_0 k9_g6_1 g9_g6_1 k9_g6_2 g9_g6_2 k9_g6_3 g9_g6_3 k9_g7_0 g9_g7_0 k9_g7_1 g9_g7_1 k9_g7_2 g9_g7_2 k9_g7_3 g9_g7_3 k9_g8_0 g9_g8_0 k9_g8_1 g9_g8_1 k9_g8_2 g9_g8_2 k9_g8_3 g9_g8_3 k9_g9_0 g9_g9_0 k9_g9_1 g9_g9_1 k9_g9_2 g9_g9_2 k9_g9_3 g9_g9_3 B9 z9; intro f hf; have u145 : f 145 = (.int .u8 a) := (by rw [← hf]; rfl); clear hf; rintro w' ⟨h0, h1, h2, h3, h4, h5, h6, h7, h8, h9, h10, h11, h12, h13, h14, h15, h16, h17, h18, h19, h20, h21, h22, h23, h24, h25, h26, h27, h28, h29, h30, h31, h32, h33, h34, h35, h36, h37, h38, h39, h40, h41, h42, h43, h44, h45, h46, h47, h48, h49, h50, h51, h52, h53, h54, h55⟩; go_simp; try exact IntWalk.i64_in _ (by omega)
  refine obe_val (by rfl) ?_ ?_
  · clear k9_b2_0 g9_b2_0 k9_b2_1 g9_b2_1 k9_b2_2 g9_b2_2 k9_b2_3 g9_b2_3 k9_b3_0 g9_b3_0 k9_b3_1 g9_b3_1 k9_b3_2 g9_b3_2 k9_b3_3 g9_b3_3 k9_g5_0 g9_g5_0 k9_g5_1 g9_g5_1 k9_g5_2 g9_g5_2 k9_g5_3 g9_g5_3 k9_g6_0 g9_g6_0 k9_g6_1 g9_g6_1 k9_g6_2 g9_g6_2 k9_g6_3 g9_g6_3 k9_g7_0 g9_g7_0 k9_g7_1 g9_g7_1 k9_g7_2 g9_g7_2 k9_g7_3 g9_g7_3 k9_g8_0 g9_g8_0 k9_g8_1 g9_g8_1 k9_g8_2 g9_g8_2 k9_g8_3 g9_g8_3 k9_g9_0 g9_g9_0 k9_g9_1 g9_g9_1 k9_g9_2 g9_g9_2 k9_g9_3 g9_g9_3 B9 z9; intro f hf; have u146 : f 146 = (.bool true) := (by rw [← hf]; rfl); clear hf; rintro w' ⟨h0, h1, h2, h3, h4, h5, h6, h7, h8, h9, h10, h11, h12, h13, h14, h15, h16, h17, h18, h19, h20, h21, h22, h23, h24, h25, h26, h27, h28, h29, h30, h31, h32, h33, h34, h35, h36, h37, h38, h39, h40, h41, h42, h43, h44, h45, h46, h47, h48, h49, h50, h51, h52, h53, h54, h55⟩; go_simp; try exact IntWalk.i64_in _ (by omega)
  refine obe_skip (by rfl) ?_
  refine obe_skip (by rfl) ?_
  refine obe_skip (by rfl) ?_
  refine obe_skip (by rfl) ?_
  refine obe_skip (by rfl) ?_
  refine obe_val (by rfl) ?_ ?_
  · clear k9_b2_0 g9_b2_0 k9_b2_1 g9_b2_1 k9_b2_2 g9_b2_2 k9_b2_3 g9_b2_3 k9_b3_0 g9_b3_0 k9_b3_1 g9_b3_1 k9_b3_2 g9_b3_2 k9_b3_3 g9_b3_3 k9_g5_0 g9_g5_0 k9_g5_1 g9_g5_1 k9_g5_2 g9_g5_2 k9_g5_3 g9_g5_3 k9_g6_0 g9_g6_0 k9_g6_1 g9_g6_1 k9_g6_2 g9_g6_2 k9_g6_3 g9_g6_3 k9_g7_0 g9_g7_0 k9_g7_1 g9_g7_1 k9_g7_2 g9_g7_2 k9_g7_3 g9_g7_3 k9_g8_0 g9_g8_0 k9_g8_1 g9_g8_1 k9_g8_2 g9_g8_2 k9_g8_3 g9_g8_3 k9_g9_0 g9_g9_0 k9_g9_1 g9_g9_1 k9_g9_2 g9_g9_2 k9_g9_3 g9_g9_3 B9 z9; intro f hf; have u147 : f 147 = (.bool true) := (by rw [← hf]; rfl); clear hf; rintro w' ⟨h0, h1, h2, h3, h4, h5, h6, h7, h8, h9, h10, h11, h12, h13, h14, h15, h16, h17, h18, h19, h20, h21, h22, h23, h24, h25, h26, h27, h28, h29, h30, h31, h32, h33, h34, h35, h36, h37, h38, h39, h40, h41, h42, h43, h44, h45, h46, h47, h48, h49, h50, h51, h52, h53, h54, h55⟩; go_simp; try exact IntWalk.i64_in _ (by omega)
  refine obe_val (by rfl) ?_ ?_
  · clear k9_b2_0 g9_b2_0 k9_b2_1 g9_b2_1 k9_b2_2 g9_b2_2 k9_b2_3 g9_b2_3 k9_b3_0 g9_b3_0 k9_b3_1 g9_b3_1 k9_b3_2 g9_b3_2 k9_b3_3 g9_b3_3 k9_g5_0 g9_g5_0 k9_g5_1 g9_g5_1 k9_g5_2 g9_g5_2 k9_g5_3 g9_g5_3 k9_g6_0 g9_g6_0 k9_g6_1 g9_g6_1 k9_g6_2 g9_g6_2 k9_g6_3 g9_g6_3 k9_g7_0 g9_g7_0 k9_g7_1 g9_g7_1 k9_g7_2 g9_g7_2 k9_g7_3 g9_g7_3 k9_g8_0 g9_g8_0 k9_g8_1 g9_g8_1 k9_g8_2 g9_g8_2 k9_g8_3 g9_g8_3 k9_g9_0 g9_g9_0 k9_g9_1 g9_g9_1 k9_g9_2 g9_g9_2 k9_g9_3 g9_g9_3 B9 z9; intro f hf; have u143 : f 143 = (.bool true) := (by rw [← hf]; rfl); have u153 : f 153 = (.bool true) := (by rw [← hf]; rfl); clear hf; rintro w' ⟨h0, h1, h2, h3, h4, h5, h6, h7, h8, h9, h10, h11, h12, h13, h14, h15, h16, h17, h18, h19, h20, h21, h22, h23, h24, h25, h26, h27, h28, h29, h30, h31, h32, h33, h34, h35, h36, h37, h38, h39, h40, h41, h42, h43, h44, h45, h46, h47, h48, h49, h50, h51, h52, h53, h54, h55⟩; go_simp; try exact IntWalk.i64_in _ (by omega)
  refine obe_val (by rfl) ?_ ?_
  · clear k9_b2_0 g9_b2_0 k9_b2_1 g9_b2_1 k9_b2_2 g9_b2_2 k9_b2_3 g9_b2_3 k9_b3_0 g9_b3_0 k9_b3_1 g9_b3_1 k9_b3_2 g9_b3_2 k9_b3_3 g9_b3_3 k9_g5_0 g9_g5_0 k9_g5_1 g9_g5_1 k9_g5_2 g9_g5_2 k9_g5_3 g9_g5_3 k9_g6_0 g9_g6_0 k9_g6_1 g9_g6_1 k9_g6_2 g9_g6_2 k9_g6_3 g9_g6_3 k9_g7_0 g9_g7_0 k9_g7_1 g9_g7_1 k9_g7_2 g9_g7_2 k9_g7_3 g9_g7_3 k9_g8_0 g9_g8_0 k9_g8_1 g9_g8_1 k9_g8_2 g9_g8_2 k9_g8_3 g9_g8_3 k9_g9_0 g9_g9_0 k9_g9_1 g9_g9_1 k9_g9_2 g9_g9_2 k9_g9_3 g9_g9_3 B9 z9; intro f hf; have u154 : f 154 = (.bool true) := (by rw [← hf]; rfl); clear hf; rintro w' ⟨h0, h1, h2, h3, h4, h5, h6, h7, h8, h9, h10, h11, h12, h13, h14, h15, h16, h17, h18, h19, h20, h21, h22, h23, h24, h25, h26, h27, h28, h29, h30, h31, h32, h33, h34, h35, h36, h37, h38, h39, h40, h41, h42, h43, h44, h45, h46, h47, h48, h49, h50, h51, h52, h53, h54, h55⟩; go_simp; try exact IntWalk.i64_in _ (by omega)
  refine obe_call (by rfl) ?_ ?_ ?_
  · clear k9_b2_0 g9_b2_0 k9_b2_1 g9_b2_1 k9_b2_2 g9_b2_2 k9_b2_3 g9_b2_3 k9_b3_0 g9_b3_0 k9_b3_1 g9_b3_1 k9_b3_2 g9_b3_2 k9_b3_3 g9_b3_3 k9_g5_0 g9_g5_0 k9_g5_1 g9_g5_1 k9_g5_2 g9_g5_2 k9_g5_3 g9_g5_3 k9_g6_0 g9_g6_0 k9_g6_1 g9_g6_1 k9_g6_2 g9_g6_2 k9_g6_3 g9_g6_3 k9_g7_0 g9_g7_0 k9_g7_1 g9_g7_1 k9_g7_2 g9_g7_2 k9_g7_3 g9_g7_3 k9_g8_0 g9_g8_0 k9_g8_1 g9_g8_1 k9_g8_2 g9_g8_2 k9_g8_3 g9_g8_3 k9_g9_0 g9_g9_0 k9_g9_1 g9_g9_1 k9_g9_2 g9_g9_2 k9_g9_3 g9_g9_3 B9 z9; intro f hf; clear hf; intro w' _; simp only [execOp, resolve, invoke, rhoF_tmp, rhoF_func, rhoF_const, List.map_toArray, List.map_cons, List.map_nil]; go_simp
  · clear k9_b2_0 g9_b2_0 k9_b2_1 g9_b2_1 k9_b2_2 g9_b2_2 k9_b2_3 g9_b2_3 k9_b3_0 g9_b3_0 k9_b3_1 g9_b3_1 k9_b3_2 g9_b3_2 k9_b3_3 g9_b3_3 k9_g5_0 g9_g5_0 k9_g5_1 g9_g5_1 k9_g5_2 g9_g5_2 k9_g5_3 g9_g5_3 k9_g6_0 g9_g6_0 k9_g6_1 g9_g6_1 k9_g6_2 g9_g6_2 k9_g6_3 g9_g6_3 k9_g7_0 g9_g7_0 k9_g7_1 g9_g7_1 k9_g7_2 g9_g7_2 k9_g7_3 g9_g7_3 k9_g8_0 g9_g8_0 k9_g8_1 g9_g8_1 k9_g8_2 g9_g8_2 k9_g8_3 g9_g8_3 k9_g9_0 g9_g9_0 k9_g9_1 g9_g9_1 k9_g9_2 g9_g9_2 k9_g9_3 g9_g9_3 B9 z9; rintro w' ⟨h0, h1, h2, h3, h4, h5, h6, h7, h8, h9, h10, h11, h12, h13, h14, h15, h16, h17, h18, h19, h20, h21, h22, h23, h24, h25, h26, h27, h28, h29, h30, h31, h32, h33, h34, h35, h36, h37, h38, h39, h40, h41, h42, h43, h44, h45, h46, h47, h48, h49, h50, h51, h52, h53, h54, h55⟩; exact cex_any _
  refine obe_val (by rfl) ?_ ?_
  · clear k9_b2_0 g9_b2_0 k9_b2_1 g9_b2_1 k9_b2_2 g9_b2_2 k9_b2_3 g9_b2_3 k9_b3_0 g9_b3_0 k9_b3_1 g9_b3_1 k9_b3_2 g9_b3_2 k9_b3_3 g9_b3_3 k9_g5_0 g9_g5_0 k9_g5_1 g9_g5_1 k9_g5_2 g9_g5_2 k9_g5_3 g9_g5_3 k9_g6_0 g9_g6_0 k9_g6_1 g9_g6_1 k9_g6_2 g9_g6_2 k9_g6_3 g9_g6_3 k9_g7_0 g9_g7_0 k9_g7_1 g9_g7_1 k9_g7_2 g9_g7_2 k9_g7_3 g9_g7_3 k9_g8_0 g9_g8_0 k9_g8_1 g9_g8_1 k9_g8_2 g9_g8_2 k9_g8_3 g9_g8_3 k9_g9_0 g9_g9_0 k9_g9_1 g9_g9_1 k9_g9_2 g9_g9_2 k9_g9_3 g9_g9_3 B9 z9; intro f hf; have u155 : f 155 = (.bool true) := (by rw [← hf]; rfl); have u156 : f 156 = (.bool true) := (by rw [← hf]; rfl); clear hf; rintro w' ⟨h0, h1, h2, h3, h4, h5, h6, h7, h8, h9, h10, h11, h12, h13, h14, h15, h16, h17, h18, h19, h20, h21, h22, h23, h24, h25, h26, h27, h28, h29, h30, h31, h32, h33, h34, h35, h36, h37, h38, h39, h40, h41, h42, h43, h44, h45, h46, h47, h48, h49, h50, h51, h52, h53, h54, h55⟩; go_simp; try exact IntWalk.i64_in _ (by omega)
  refine obe_val (by rfl) ?_ ?_
  · clear k9_b2_0 g9_b2_0 k9_b2_1 g9_b2_1 k9_b2_2 g9_b2_2 k9_b2_3 g9_b2_3 k9_b3_0 g9_b3_0 k9_b3_1 g9_b3_1 k9_b3_2 g9_b3_2 k9_b3_3 g9_b3_3 k9_g5_0 g9_g5_0 k9_g5_1 g9_g5_1 k9_g5_2 g9_g5_2 k9_g5_3 g9_g5_3 k9_g6_0 g9_g6_0 k9_g6_1 g9_g6_1 k9_g6_2 g9_g6_2 k9_g6_3 g9_g6_3 k9_g7_0 g9_g7_0 k9_g7_1 g9_g7_1 k9_g7_2 g9_g7_2 k9_g7_3 g9_g7_3 k9_g8_0 g9_g8_0 k9_g8_1 g9_g8_1 k9_g8_2 g9_g8_2 k9_g8_3 g9_g8_3 k9_g9_0 g9_g9_0 k9_g9_1 g9_g9_1 k9_g9_2 g9_g9_2 k9_g9_3 g9_g9_3 B9 z9; intro f hf; have u157 : f 157 = (.bool true) := (by rw [← hf]; rfl); clear hf; rintro w' ⟨h0, h1, h2, h3, h4, h5, h6, h7, h8, h9, h10, h11, h12, h13, h14, h15, h16, h17, h18, h19, h20, h21, h22, h23, h24, h25, h26, h27, h28, h29, h30, h31, h32, h33, h34, h35, h36, h37, h38, h39, h40, h41, h42, h43, h44, h45, h46, h47, h48, h49, h50, h51, h52, h53, h54, h55⟩; go_simp; try exact IntWalk.i64_in _ (by omega)
  refine obe_nil ?_
  rintro w10 ⟨h0, h1, h2, h3, h4, h5, h6, h7, h8, h9, h10, h11, h12, h13, h14, h15, h16, h17, h18, h19, h20, h21, h22, h23, h24, h25, h26, h27, h28, h29, h30, h31, h32, h33, h34, h35, h36, h37, h38, h39, h40, h41, h42, h43, h44, h45, h46, h47, h48, h49, h50, h51, h52, h53, h54, h55⟩ hb10 hF
  (try simp only [List.nil_append, List.append_nil, List.cons_append] at hF)
  simp only [puts, putD, Act.put, List.setIfInBounds_toArray, List.set_cons_zero, List.set_cons_succ]
  clear hF
  have k10_b2_0 := bcs hb10 k9_b2_0
  have g10_b2_0 := bfs hb10 k9_b2_0 g9_b2_0
  have k10_b2_1 := bcs hb10 k9_b2_1
  have g10_b2_1 := bfs hb10 k9_b2_1 g9_b2_1
  have k10_b2_2 := bcs hb10 k9_b2_2
  have g10_b2_2 := bfs hb10 k9_b2_2 g9_b2_2
  have k10_b2_3 := bcs hb10 k9_b2_3
  have g10_b2_3 := bfs hb10 k9_b2_3 g9_b2_3
  have k10_b3_0 := bcs hb10 k9_b3_0
  have g10_b3_0 := bfs hb10 k9_b3_0 g9_b3_0
  have k10_b3_1 := bcs hb10 k9_b3_1
  have g10_b3_1 := bfs hb10 k9_b3_1 g9_b3_1
  have k10_b3_2 := bcs hb10 k9_b3_2
  have g10_b3_2 := bfs hb10 k9_b3_2 g9_b3_2
  have k10_b3_3 := bcs hb10 k9_b3_3
  have g10_b3_3 := bfs hb10 k9_b3_3 g9_b3_3
  have k10_g5_0 := bcs hb10 k9_g5_0
  have g10_g5_0 := bfs hb10 k9_g5_0 g9_g5_0
  have k10_g5_1 := bcs hb10 k9_g5_1
  have g10_g5_1 := bfs hb10 k9_g5_1 g9_g5_1
  have k10_g5_2 := bcs hb10 k9_g5_2
  have g10_g5_2 := bfs hb10 k9_g5_2 g9_g5_2
  have k10_g5_3 := bcs hb10 k9_g5_3
  have g10_g5_3 := bfs hb10 k9_g5_3 g9_g5_3
  have k10_g6_0 := bcs hb10 k9_g6_0
  have g10_g6_0 := bfs hb10 k9_g6_0 g9_g6_0
  have k10_g6_1 := bcs hb10 k9_g6_1
  have g10_g6_1 := bfs hb10 k9_g6_1 g9_g6_1
  have k10_g6_2 := bcs hb10 k9_g6_2
  have g10_g6_2 := bfs hb10 k9_g6_2 g9_g6_2
  have k10_g6_3 := bcs hb10 k9_g6_3
  have g10_g6_3 := bfs hb10 k9_g6_3 g9_g6_3
  have k10_g7_0 := bcs hb10 k9_g7_0
  have g10_g7_0 := bfs hb10 k9_g7_0 g9_g7_0
  have k10_g7_1 := bcs hb10 k9_g7_1
  have g10_g7_1 := bfs hb10 k9_g7_1 g9_g7_1
  have k10_g7_2 := bcs hb10 k9_g7_2
  have g10_g7_2 := bfs hb10 k9_g7_2 g9_g7_2
  have k10_g7_3 := bcs hb10 k9_g7_3
  have g10_g7_3 := bfs hb10 k9_g7_3 g9_g7_3
  have k10_g8_0 := bcs hb10 k9_g8_0
  have g10_g8_0 := bfs hb10 k9_g8_0 g9_g8_0
  have k10_g8_1 := bcs hb10 k9_g8_1
  have g10_g8_1 := bfs hb10 k9_g8_1 g9_g8_1
  have k10_g8_2 := bcs hb10 k9_g8_2
  have g10_g8_2 := bfs hb10 k9_g8_2 g9_g8_2
  have k10_g8_3 := bcs hb10 k9_g8_3
  have g10_g8_3 := bfs hb10 k9_g8_3 g9_g8_3
  have k10_g9_0 := bcs hb10 k9_g9_0
  have g10_g9_0 := bfs hb10 k9_g9_0 g9_g9_0
  have k10_g9_1 := bcs hb10 k9_g9_1
  have g10_g9_1 := bfs hb10 k9_g9_1 g9_g9_1
  have k10_g9_2 := bcs hb10 k9_g9_2
  have g10_g9_2 := bfs hb10 k9_g9_2 g9_g9_2
  have k10_g9_3 := bcs hb10 k9_g9_3
  have g10_g9_3 := bfs hb10 k9_g9_3 g9_g9_3
  clear h0 h1 h2 h3 h4 h5 h6 h7 h8 h9 h10 h11 h12 h13 h14 h15 h16 h17 h18 h19 h20 h21 h22 h23 h24 h25 h26 h27 h28 h29 h30 h31 h32 h33 h34 h35 h36 h37 h38 h39 h40 h41 h42 h43 h44 h45 h46 h47 h48 h49 h50 h51 h52 h53 h54 h55
  have B10 := bel_step B9 hb10
  have z10 := Nat.le_trans z9 hb10.size
  clear hb10
  (try clear B9)
  (try clear z9)
  (try clear k9_b2_0)
  (try clear g9_b2_0)
  (try clear k9_b2_1)
  (try clear g9_b2_1)
  (try clear k9_b2_2)
  (try clear g9_b2_2)
  (try clear k9_b2_3)
  (try clear g9_b2_3)
  (try clear k9_b3_0)
  (try clear g9_b3_0)
  (try clear k9_b3_1)
  (try clear g9_b3_1)
  (try clear k9_b3_2)
  (try clear g9_b3_2)
  (try clear k9_b3_3)
  (try clear g9_b3_3)
  (try clear k9_g5_0)
  (try clear g9_g5_0)
  (try clear k9_g5_1)
  (try clear g9_g5_1)
  (try clear k9_g5_2)
  (try clear g9_g5_2)
  (try clear k9_g5_3)
  (try clear g9_g5_3)
  (try clear k9_g6_0)
  (try clear g9_g6_0)
  (try clear k9_g6_1)
  (try clear g9_g6_1)
  (try clear k9_g6_2)
  (try clear g9_g6_2)
  (try clear k9_g6_3)
  (try clear g9_g6_3)
  (try clear k9_g7_0)
  (try clear g9_g7_0)
  (try clear k9_g7_1)
  (try clear g9_g7_1)
  (try clear k9_g7_2)
  (try clear g9_g7_2)
  (try clear k9_g7_3)
  (try clear g9_g7_3)
  (try clear k9_g8_0)
  (try clear g9_g8_0)
  (try clear k9_g8_1)
  (try clear g9_g8_1)
  (try clear k9_g8_2)
  (try clear g9_g8_2)
  (try clear k9_g8_3)
  (try clear g9_g8_3)
  (try clear k9_g9_0)
  (try clear g9_g9_0)
  (try clear k9_g9_1)
  (try clear g9_g9_1)
  (try clear k9_g9_2)
  (try clear g9_g9_2)
  (try clear k9_g9_3)
  (try clear g9_g9_3)
  (try clear q9_b2)
  (try clear x9_b2)
  (try clear y9_b2)
  (try clear q9_b3)
  (try clear x9_b3)
  (try clear y9_b3)
  (try clear q9_g5)
  (try clear x9_g5)
  (try clear y9_g5)
  (try clear q9_g6)
  (try clear x9_g6)
  (try clear y9_g6)
  (try clear q9_g7)
  (try clear x9_g7)
  (try clear y9_g7)
  (try clear q9_g8)
  (try clear x9_g8)
  (try clear y9_g8)
  (try clear q9_g9)
  (try clear x9_g9)
  (try clear y9_g9)
  have q10_b2 : w.heap.size < w10.heap.size := qlt k10_b2_0
  have x10_b2 : ¬ w.heap.size = w10.heap.size := qne k10_b2_0
  have y10_b2 : ¬ w10.heap.size = w.heap.size := fun h => qne k10_b2_0 h.symm
  have q10_b3 : w.heap.size + 1 < w10.heap.size := qlt k10_b3_0
  have x10_b3 : ¬ w.heap.size + 1 = w10.heap.size := qne k10_b3_0
  have y10_b3 : ¬ w10.heap.size = w.heap.size + 1 := fun h => qne k10_b3_0 h.symm
  have q10_g5 : g5 < w10.heap.size := qlt k10_g5_0
  have x10_g5 : ¬ g5 = w10.heap.size := qne k10_g5_0
  have y10_g5 : ¬ w10.heap.size = g5 := fun h => qne k10_g5_0 h.symm
  have q10_g6 : g6 < w10.heap.size := qlt k10_g6_0
  have x10_g6 : ¬ g6 = w10.heap.size := qne k10_g6_0
  have y10_g6 : ¬ w10.heap.size = g6 := fun h => qne k10_g6_0 h.symm
  have q10_g7 : g7 < w10.heap.size := qlt k10_g7_0
  have x10_g7 : ¬ g7 = w10.heap.size := qne k10_g7_0
  have y10_g7 : ¬ w10.heap.size = g7 := fun h => qne k10_g7_0 h.symm
  have q10_g8 : g8 < w10.heap.size := qlt k10_g8_0
  have x10_g8 : ¬ g8 = w10.heap.size := qne k10_g8_0
  have y10_g8 : ¬ w10.heap.size = g8 := fun h => qne k10_g8_0 h.symm
  have q10_g9 : g9 < w10.heap.size := qlt k10_g9_0
  have x10_g9 : ¬ g9 = w10.heap.size := qne k10_g9_0
  have y10_g9 : ¬ w10.heap.size = g9 := fun h => qne k10_g9_0 h.symm
  unfold wpList
  go_wp2
  go_ret
  refine ⟨rfl, ?_⟩
  repeat (first | with_reducible exact Below.refl _ _ | with_reducible exact B10 | with_reducible apply below_drewN | with_reducible apply Below.drew | (with_reducible refine Below.alloc ?_ (by first | (simp; done) | (simp; omega) | omega) _) | (with_reducible refine Below.setCell ?_ (by first | (simp; done) | (simp; omega) | omega) _))
end Go.Proofs.Ytgaabdidddglhaa
