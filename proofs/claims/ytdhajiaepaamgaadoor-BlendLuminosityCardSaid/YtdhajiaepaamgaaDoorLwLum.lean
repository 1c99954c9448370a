import Derived.Test.YtdhajiaepaamgaaDoorO1
import Derived.WalkKit
import Derived.Deep.CutRange
import Derived.WalkSpells
import Derived.WalkLawsBesides
import Derived.Lib.Hide
import Derived.Below
import Derived.Deep.QuietTactic
import Derived.BigQuiet
import Derived.Deep.RegionHeld3
import Derived.Deep.DrawnRows
import Derived.Deep.DeepFit
import Derived.IntWalk
namespace Go.Proofs.YtdhajiaepaamgaaDoor
open Go.RowKit
set_option linter.unusedVariables false
set_option linter.unusedSimpArgs false
attribute [local go_sem ↓] Go.wp_at_zero Go.wp_at_succ
attribute [local go_sem] rhoF_tmp rhoF_const rhoF_global rhoF_func

set_option maxRecDepth 20000 in
set_option maxHeartbeats 16000000 in
theorem blum_w (r g b a s t u d : Int) (r0 : 0 ≤ r) (r1 : r ≤ 255) (g0 : 0 ≤ g) (g1 : g ≤ 255) (b0 : 0 ≤ b) (b1 : b ≤ 255) (a0 : 0 ≤ a) (a1 : a ≤ 255) (s0 : 0 ≤ s) (s1 : s ≤ 255) (t0 : 0 ≤ t) (t1 : t ≤ 255) (u0 : 0 ≤ u) (u1 : u ≤ 255) (d0 : 0 ≤ d) (d1 : d ≤ 255) (w : World) (hN : Nm w) :
    Calls Tryd.prog 10 #[.agg #[.int .u8 r, .int .u8 g, .int .u8 b, .int .u8 a], .agg #[.int .u8 s, .int .u8 t, .int .u8 u, .int .u8 d]] w fun e w' => e = .returned (.bool true) ∧ Below w.heap.size w w' := by
  obtain ⟨hq0, hq1, hq2, hb0, hb1, hb2, hn, ch⟩ := opq_ex 10 r g b s t u (by omega) r0 r1 g0 g1 b0 b1 s0 s1 t0 t1 u0 u1
  have clh := fun w => luma_any hq0 hq1 hq2 255 hb0.1 hb0.2 hb1.1 hb1.2 hb2.1 hb2.2 (by omega) (by omega) w
  obtain ⟨vq0, vq1, vq2, vb0, vb1, vb2, vn, cv⟩ := opq_ex 11 r g b s t u (by omega) r0 r1 g0 g1 b0 b1 s0 s1 t0 t1 u0 u1
  have clv := fun w => luma_any vq0 vq1 vq2 255 vb0.1 vb0.2 vb1.1 vb1.2 vb2.1 vb2.2 (by omega) (by omega) w
  obtain ⟨jq0, jq1, jq2, jb0, jb1, jb2, jn, cj⟩ := opq_ex 12 r g b s t u (by omega) r0 r1 g0 g1 b0 b1 s0 s1 t0 t1 u0 u1
  have clj := fun w => luma_any jq0 jq1 jq2 255 jb0.1 jb0.2 jb1.1 jb1.2 jb2.1 jb2.2 (by omega) (by omega) w
  obtain ⟨kq0, kq1, kq2, kb0, kb1, kb2, kn, ck⟩ := opq_ex 13 r g b s t u (by omega) r0 r1 g0 g1 b0 b1 s0 s1 t0 t1 u0 u1
  have clk := fun w => luma_any kq0 kq1 kq2 255 kb0.1 kb0.2 kb1.1 kb1.2 kb2.1 kb2.2 (by omega) (by omega) w
  have cly := fun w => luma_any s t u 255 s0 s1 t0 t1 u0 u1 (by omega) (by omega) w
  have clx := fun w => luma_any r g b 255 r0 r1 g0 g1 b0 b1 (by omega) (by omega) w
  obtain ⟨ly, hly⟩ : ∃ z, 30 * s + 59 * t + 11 * u = z := ⟨_, rfl⟩
  obtain ⟨lx, hlx⟩ : ∃ z, 30 * r + 59 * g + 11 * b = z := ⟨_, rfl⟩
  rw [hly] at cly
  rw [hlx] at clx
  obtain ⟨lh, hlh⟩ : ∃ z, 30 * hq0 + 59 * hq1 + 11 * hq2 = z := ⟨_, rfl⟩
  rw [hlh] at clh hn
  rw [if_neg (by omega), hly] at hn
  have cnh := fun w => near_any lh ly hn.1 hn.2 (by omega) (by omega) (by omega) (by omega) w
  obtain ⟨lv, hlv⟩ : ∃ z, 30 * vq0 + 59 * vq1 + 11 * vq2 = z := ⟨_, rfl⟩
  rw [hlv] at clv vn
  rw [if_neg (by omega), hly] at vn
  have cnv := fun w => near_any lv ly vn.1 vn.2 (by omega) (by omega) (by omega) (by omega) w
  obtain ⟨lj, hlj⟩ : ∃ z, 30 * jq0 + 59 * jq1 + 11 * jq2 = z := ⟨_, rfl⟩
  rw [hlj] at clj jn
  rw [if_neg (by omega), hly] at jn
  have cnj := fun w => near_any lj ly jn.1 jn.2 (by omega) (by omega) (by omega) (by omega) w
  obtain ⟨lk, hlk⟩ : ∃ z, 30 * kq0 + 59 * kq1 + 11 * kq2 = z := ⟨_, rfl⟩
  rw [hlk] at clk kn
  rw [if_pos rfl, hlx] at kn
  have cnk := fun w => near_any lk lx kn.1 kn.2 (by omega) (by omega) (by omega) (by omega) w
  clear hlh hn hb0 hb1 hb2 hlv vn vb0 vb1 vb2 hlj jn jb0 jb1 jb2 hlk kn kb0 kb1 kb2 hly hlx
  go_enter Tryd.func10, Tryd.ntmps10
  go_wp2
  go_cut [5, 6] from 9 to 10 (fun vx vy wc => ∃ gx gy : Nat, vx = .pointer (some ⟨gx, 0, none⟩) ∧ vy = .pointer (some ⟨gy, 0, none⟩) ∧ ¬ gx = gy ∧ w.heap.size + 1 + 1 ≤ gx ∧ w.heap.size + 1 + 1 ≤ gy ∧ wc.cell? ⟨w.heap.size, 0, none⟩ = some (.int .u8 r) ∧ wc.frozen? ⟨w.heap.size, 0, none⟩ = false ∧ wc.cell? ⟨w.heap.size, 1, none⟩ = some (.int .u8 g) ∧ wc.frozen? ⟨w.heap.size, 1, none⟩ = false ∧ wc.cell? ⟨w.heap.size, 2, none⟩ = some (.int .u8 b) ∧ wc.frozen? ⟨w.heap.size, 2, none⟩ = false ∧ wc.cell? ⟨w.heap.size, 3, none⟩ = some (.int .u8 a) ∧ wc.frozen? ⟨w.heap.size, 3, none⟩ = false ∧ wc.cell? ⟨w.heap.size + 1, 0, none⟩ = some (.int .u8 s) ∧ wc.frozen? ⟨w.heap.size + 1, 0, none⟩ = false ∧ wc.cell? ⟨w.heap.size + 1, 1, none⟩ = some (.int .u8 t) ∧ wc.frozen? ⟨w.heap.size + 1, 1, none⟩ = false ∧ wc.cell? ⟨w.heap.size + 1, 2, none⟩ = some (.int .u8 u) ∧ wc.frozen? ⟨w.heap.size + 1, 2, none⟩ = false ∧ wc.cell? ⟨w.heap.size + 1, 3, none⟩ = some (.int .u8 d) ∧ wc.frozen? ⟨w.heap.size + 1, 3, none⟩ = false ∧ wc.cell? ⟨gx, 0, none⟩ = some (.int .u8 r) ∧ wc.frozen? ⟨gx, 0, none⟩ = false ∧ wc.cell? ⟨gx, 1, none⟩ = some (.int .u8 g) ∧ wc.frozen? ⟨gx, 1, none⟩ = false ∧ wc.cell? ⟨gx, 2, none⟩ = some (.int .u8 b) ∧ wc.frozen? ⟨gx, 2, none⟩ = false ∧ wc.cell? ⟨gx, 3, none⟩ = some (.int .u8 a) ∧ wc.frozen? ⟨gx, 3, none⟩ = false ∧ wc.cell? ⟨gy, 0, none⟩ = some (.int .u8 s) ∧ wc.frozen? ⟨gy, 0, none⟩ = false ∧ wc.cell? ⟨gy, 1, none⟩ = some (.int .u8 t) ∧ wc.frozen? ⟨gy, 1, none⟩ = false ∧ wc.cell? ⟨gy, 2, none⟩ = some (.int .u8 u) ∧ wc.frozen? ⟨gy, 2, none⟩ = false ∧ wc.cell? ⟨gy, 3, none⟩ = some (.int .u8 d) ∧ wc.frozen? ⟨gy, 3, none⟩ = false ∧ Below w.heap.size w wc)
  case first =>
    go_region
    all_goals go_wp2
    all_goals go_meet
    all_goals refine ⟨_, _, rfl, rfl, by first | (simp; done) | (simp; omega) | omega, by first | (simp; done) | (simp; omega) | omega, by first | (simp; done) | (simp; omega) | omega, by first | with_reducible assumption | go_simp, by first | with_reducible assumption | go_simp, by first | with_reducible assumption | go_simp, by first | with_reducible assumption | go_simp, by first | with_reducible assumption | go_simp, by first | with_reducible assumption | go_simp, by first | with_reducible assumption | go_simp, by first | with_reducible assumption | go_simp, by first | with_reducible assumption | go_simp, by first | with_reducible assumption | go_simp, by first | with_reducible assumption | go_simp, by first | with_reducible assumption | go_simp, by first | with_reducible assumption | go_simp, by first | with_reducible assumption | go_simp, by first | with_reducible assumption | go_simp, by first | with_reducible assumption | go_simp, by first | with_reducible assumption | go_simp, by first | with_reducible assumption | go_simp, by first | with_reducible assumption | go_simp, by first | with_reducible assumption | go_simp, by first | with_reducible assumption | go_simp, by first | with_reducible assumption | go_simp, by first | with_reducible assumption | go_simp, by first | with_reducible assumption | go_simp, by first | with_reducible assumption | go_simp, by first | with_reducible assumption | go_simp, by first | with_reducible assumption | go_simp, by first | with_reducible assumption | go_simp, by first | with_reducible assumption | go_simp, by first | with_reducible assumption | go_simp, by first | with_reducible assumption | go_simp, by first | with_reducible assumption | go_simp, by repeat (first | with_reducible exact Below.refl _ _ | fail | with_reducible apply below_drewN | with_reducible apply Below.drew | (with_reducible refine Below.alloc ?_ (by first | (simp; done) | (simp; omega) | omega) _) | (with_reducible refine Below.setCell ?_ (by first | (simp; done) | (simp; omega) | omega) _))⟩
  case rest =>
    obtain ⟨g5, g6, rfl, rfl, ng5_g6, mg5, mg6, k1_b2_0, g1_b2_0, k1_b2_1, g1_b2_1, k1_b2_2, g1_b2_2, k1_b2_3, g1_b2_3, k1_b3_0, g1_b3_0, k1_b3_1, g1_b3_1, k1_b3_2, g1_b3_2, k1_b3_3, g1_b3_3, k1_g5_0, g1_g5_0, k1_g5_1, g1_g5_1, k1_g5_2, g1_g5_2, k1_g5_3, g1_g5_3, k1_g6_0, g1_g6_0, k1_g6_1, g1_g6_1, k1_g6_2, g1_g6_2, k1_g6_3, g1_g6_3, B1⟩ := hcut
    have ng6_g5 : ¬ g6 = g5 := fun h => ng5_g6 h.symm
    have e1_0 := Nm.below hN B1
    have z1 : w.heap.size + 1 + 1 ≤ wc.heap.size := by have := qlt k1_b3_0; omega
    have ng5_b2 : ¬ g5 = w.heap.size := by omega
    have nb2_g5 : ¬ w.heap.size = g5 := by omega
    have ng6_b2 : ¬ g6 = w.heap.size := by omega
    have nb2_g6 : ¬ w.heap.size = g6 := by omega
    have ng5_b3 : ¬ g5 = w.heap.size + 1 := by omega
    have nb3_g5 : ¬ w.heap.size + 1 = g5 := by omega
    have ng6_b3 : ¬ g6 = w.heap.size + 1 := by omega
    have nb3_g6 : ¬ w.heap.size + 1 = g6 := by omega
    have q1_b2 : w.heap.size < wc.heap.size := qlt k1_b2_0
    have x1_b2 : ¬ w.heap.size = wc.heap.size := qne k1_b2_0
    have y1_b2 : ¬ wc.heap.size = w.heap.size := fun h => qne k1_b2_0 h.symm
    have xp_b2 : ¬ w.heap.size = wc.heap.size + 1 := by omega
    have yp_b2 : ¬ wc.heap.size + 1 = w.heap.size := by omega
    have q1_b3 : w.heap.size + 1 < wc.heap.size := qlt k1_b3_0
    have x1_b3 : ¬ w.heap.size + 1 = wc.heap.size := qne k1_b3_0
    have y1_b3 : ¬ wc.heap.size = w.heap.size + 1 := fun h => qne k1_b3_0 h.symm
    have xp_b3 : ¬ w.heap.size + 1 = wc.heap.size + 1 := by omega
    have yp_b3 : ¬ wc.heap.size + 1 = w.heap.size + 1 := by omega
    have q1_g5 : g5 < wc.heap.size := qlt k1_g5_0
    have x1_g5 : ¬ g5 = wc.heap.size := qne k1_g5_0
    have y1_g5 : ¬ wc.heap.size = g5 := fun h => qne k1_g5_0 h.symm
    have xp_g5 : ¬ g5 = wc.heap.size + 1 := by omega
    have yp_g5 : ¬ wc.heap.size + 1 = g5 := by omega
    have q1_g6 : g6 < wc.heap.size := qlt k1_g6_0
    have x1_g6 : ¬ g6 = wc.heap.size := qne k1_g6_0
    have y1_g6 : ¬ wc.heap.size = g6 := fun h => qne k1_g6_0 h.symm
    have xp_g6 : ¬ g6 = wc.heap.size + 1 := by omega
    have yp_g6 : ¬ wc.heap.size + 1 = g6 := by omega
    go_wp2
    refine wp_region_env (fun w' => w'.cell? ⟨w.heap.size, 0, none⟩ = some (.int .u8 r) ∧ w'.frozen? ⟨w.heap.size, 0, none⟩ = false ∧ w'.cell? ⟨w.heap.size, 1, none⟩ = some (.int .u8 g) ∧ w'.frozen? ⟨w.heap.size, 1, none⟩ = false ∧ w'.cell? ⟨w.heap.size, 2, none⟩ = some (.int .u8 b) ∧ w'.frozen? ⟨w.heap.size, 2, none⟩ = false ∧ w'.cell? ⟨w.heap.size, 3, none⟩ = some (.int .u8 a) ∧ w'.frozen? ⟨w.heap.size, 3, none⟩ = false ∧ w'.cell? ⟨w.heap.size + 1, 0, none⟩ = some (.int .u8 s) ∧ w'.frozen? ⟨w.heap.size + 1, 0, none⟩ = false ∧ w'.cell? ⟨w.heap.size + 1, 1, none⟩ = some (.int .u8 t) ∧ w'.frozen? ⟨w.heap.size + 1, 1, none⟩ = false ∧ w'.cell? ⟨w.heap.size + 1, 2, none⟩ = some (.int .u8 u) ∧ w'.frozen? ⟨w.heap.size + 1, 2, none⟩ = false ∧ w'.cell? ⟨w.heap.size + 1, 3, none⟩ = some (.int .u8 d) ∧ w'.frozen? ⟨w.heap.size + 1, 3, none⟩ = false ∧ w'.cell? ⟨g5, 0, none⟩ = some (.int .u8 r) ∧ w'.frozen? ⟨g5, 0, none⟩ = false ∧ w'.cell? ⟨g5, 1, none⟩ = some (.int .u8 g) ∧ w'.frozen? ⟨g5, 1, none⟩ = false ∧ w'.cell? ⟨g5, 2, none⟩ = some (.int .u8 b) ∧ w'.frozen? ⟨g5, 2, none⟩ = false ∧ w'.cell? ⟨g5, 3, none⟩ = some (.int .u8 255) ∧ w'.frozen? ⟨g5, 3, none⟩ = false ∧ w'.cell? ⟨g6, 0, none⟩ = some (.int .u8 s) ∧ w'.frozen? ⟨g6, 0, none⟩ = false ∧ w'.cell? ⟨g6, 1, none⟩ = some (.int .u8 t) ∧ w'.frozen? ⟨g6, 1, none⟩ = false ∧ w'.cell? ⟨g6, 2, none⟩ = some (.int .u8 u) ∧ w'.frozen? ⟨g6, 2, none⟩ = false ∧ w'.cell? ⟨g6, 3, none⟩ = some (.int .u8 255) ∧ w'.frozen? ⟨g6, 3, none⟩ = false ∧ Nm w') (fun W => W.cell? ⟨w.heap.size, 0, none⟩ = some (.int .u8 r) ∧ W.frozen? ⟨w.heap.size, 0, none⟩ = false ∧ W.cell? ⟨w.heap.size, 1, none⟩ = some (.int .u8 g) ∧ W.frozen? ⟨w.heap.size, 1, none⟩ = false ∧ W.cell? ⟨w.heap.size, 2, none⟩ = some (.int .u8 b) ∧ W.frozen? ⟨w.heap.size, 2, none⟩ = false ∧ W.cell? ⟨w.heap.size, 3, none⟩ = some (.int .u8 a) ∧ W.frozen? ⟨w.heap.size, 3, none⟩ = false ∧ W.cell? ⟨w.heap.size + 1, 0, none⟩ = some (.int .u8 s) ∧ W.frozen? ⟨w.heap.size + 1, 0, none⟩ = false ∧ W.cell? ⟨w.heap.size + 1, 1, none⟩ = some (.int .u8 t) ∧ W.frozen? ⟨w.heap.size + 1, 1, none⟩ = false ∧ W.cell? ⟨w.heap.size + 1, 2, none⟩ = some (.int .u8 u) ∧ W.frozen? ⟨w.heap.size + 1, 2, none⟩ = false ∧ W.cell? ⟨w.heap.size + 1, 3, none⟩ = some (.int .u8 d) ∧ W.frozen? ⟨w.heap.size + 1, 3, none⟩ = false ∧ W.cell? ⟨g5, 0, none⟩ = some (.int .u8 r) ∧ W.frozen? ⟨g5, 0, none⟩ = false ∧ W.cell? ⟨g5, 1, none⟩ = some (.int .u8 g) ∧ W.frozen? ⟨g5, 1, none⟩ = false ∧ W.cell? ⟨g5, 2, none⟩ = some (.int .u8 b) ∧ W.frozen? ⟨g5, 2, none⟩ = false ∧ W.cell? ⟨g5, 3, none⟩ = some (.int .u8 255) ∧ W.frozen? ⟨g5, 3, none⟩ = false ∧ W.cell? ⟨g6, 0, none⟩ = some (.int .u8 s) ∧ W.frozen? ⟨g6, 0, none⟩ = false ∧ W.cell? ⟨g6, 1, none⟩ = some (.int .u8 t) ∧ W.frozen? ⟨g6, 1, none⟩ = false ∧ W.cell? ⟨g6, 2, none⟩ = some (.int .u8 u) ∧ W.frozen? ⟨g6, 2, none⟩ = false ∧ W.cell? ⟨g6, 3, none⟩ = some (.int .u8 255) ∧ W.frozen? ⟨g6, 3, none⟩ = false ∧ Nm W ∧ Below w.heap.size w W ∧ w.heap.size + 1 + 1 ≤ W.heap.size) 8 76 [.val (.agg #[.int .u8 r, .int .u8 g, .int .u8 b, .int .u8 255]), .val (.agg #[.int .u8 s, .int .u8 t, .int .u8 u, .int .u8 255]), .call 23 #[.int .i64 10, .agg #[.int .u8 r, .int .u8 g, .int .u8 b, .int .u8 255], .agg #[.int .u8 s, .int .u8 t, .int .u8 u, .int .u8 255]] (.agg #[.int .u8 hq0, .int .u8 hq1, .int .u8 hq2, .int .u8 255]), .val (.agg #[.int .u8 r, .int .u8 g, .int .u8 b, .int .u8 255]), .val (.agg #[.int .u8 s, .int .u8 t, .int .u8 u, .int .u8 255]), .call 23 #[.int .i64 11, .agg #[.int .u8 r, .int .u8 g, .int .u8 b, .int .u8 255], .agg #[.int .u8 s, .int .u8 t, .int .u8 u, .int .u8 255]] (.agg #[.int .u8 vq0, .int .u8 vq1, .int .u8 vq2, .int .u8 255]), .fresh (.cells #[.int .u8 0, .int .u8 0, .int .u8 0, .int .u8 0] 31), .fresh (.cells #[.int .u8 0, .int .u8 0, .int .u8 0, .int .u8 0] 31)] (by kernel_rfl) (by kernel_rfl) rfl (by kernel_rfl) (by rintro w1 w2 ⟨h0, h1, h2, h3, h4, h5, h6, h7, h8, h9, h10, h11, h12, h13, h14, h15, h16, h17, h18, h19, h20, h21, h22, h23, h24, h25, h26, h27, h28, h29, h30, h31, h32⟩ hb; exact ⟨bcs hb h0, bfs hb h0 h1, bcs hb h2, bfs hb h2 h3, bcs hb h4, bfs hb h4 h5, bcs hb h6, bfs hb h6 h7, bcs hb h8, bfs hb h8 h9, bcs hb h10, bfs hb h10 h11, bcs hb h12, bfs hb h12 h13, bcs hb h14, bfs hb h14 h15, bcs hb h16, bfs hb h16 h17, bcs hb h18, bfs hb h18 h19, bcs hb h20, bfs hb h20 h21, bcs hb h22, bfs hb h22 h23, bcs hb h24, bfs hb h24 h25, bcs hb h26, bfs hb h26 h27, bcs hb h28, bfs hb h28 h29, bcs hb h30, bfs hb h30 h31, Nm.below h32 hb⟩) ⟨by first | with_reducible assumption | go_simp, by first | with_reducible assumption | go_simp, by first | with_reducible assumption | go_simp, by first | with_reducible assumption | go_simp, by first | with_reducible assumption | go_simp, by first | with_reducible assumption | go_simp, by first | with_reducible assumption | go_simp, by first | with_reducible assumption | go_simp, by first | with_reducible assumption | go_simp, by first | with_reducible assumption | go_simp, by first | with_reducible assumption | go_simp, by first | with_reducible assumption | go_simp, by first | with_reducible assumption | go_simp, by first | with_reducible assumption | go_simp, by first | with_reducible assumption | go_simp, by first | with_reducible assumption | go_simp, by first | with_reducible assumption | go_simp, by first | with_reducible assumption | go_simp, by first | with_reducible assumption | go_simp, by first | with_reducible assumption | go_simp, by first | with_reducible assumption | go_simp, by first | with_reducible assumption | go_simp, by first | with_reducible assumption | go_simp, by first | with_reducible assumption | go_simp, by first | with_reducible assumption | go_simp, by first | with_reducible assumption | go_simp, by first | with_reducible assumption | go_simp, by first | with_reducible assumption | go_simp, by first | with_reducible assumption | go_simp, by first | with_reducible assumption | go_simp, by first | with_reducible assumption | go_simp, by first | with_reducible assumption | go_simp, Nm.below hN (by repeat (first | with_reducible exact Below.refl _ _ | with_reducible exact B1 | with_reducible apply below_drewN | with_reducible apply Below.drew | (with_reducible refine Below.alloc ?_ (by first | (simp; done) | (simp; omega) | omega) _) | (with_reducible refine Below.setCell ?_ (by first | (simp; done) | (simp; omega) | omega) _))), by repeat (first | with_reducible exact Below.refl _ _ | with_reducible exact B1 | with_reducible apply below_drewN | with_reducible apply Below.drew | (with_reducible refine Below.alloc ?_ (by first | (simp; done) | (simp; omega) | omega) _) | (with_reducible refine Below.setCell ?_ (by first | (simp; done) | (simp; omega) | omega) _)), by first | with_reducible assumption | (simp; done) | (simp; omega)⟩ ?_ ?_
    · rintro W ⟨k2_b2_0, g2_b2_0, k2_b2_1, g2_b2_1, k2_b2_2, g2_b2_2, k2_b2_3, g2_b2_3, k2_b3_0, g2_b3_0, k2_b3_1, g2_b3_1, k2_b3_2, g2_b3_2, k2_b3_3, g2_b3_3, k2_g5_0, g2_g5_0, k2_g5_1, g2_g5_1, k2_g5_2, g2_g5_2, k2_g5_3, g2_g5_3, k2_g6_0, g2_g6_0, k2_g6_1, g2_g6_1, k2_g6_2, g2_g6_2, k2_g6_3, g2_g6_3, e2_0, B2, z2⟩; exact ⟨k2_b2_0, g2_b2_0, k2_b2_1, g2_b2_1, k2_b2_2, g2_b2_2, k2_b2_3, g2_b2_3, k2_b3_0, g2_b3_0, k2_b3_1, g2_b3_1, k2_b3_2, g2_b3_2, k2_b3_3, g2_b3_3, k2_g5_0, g2_g5_0, k2_g5_1, g2_g5_1, k2_g5_2, g2_g5_2, k2_g5_3, g2_g5_3, k2_g6_0, g2_g6_0, k2_g6_1, g2_g6_1, k2_g6_2, g2_g6_2, k2_g6_3, g2_g6_3, e2_0⟩
    (try clear B1)
    (try clear z1)
    (try clear k1_b2_0)
    (try clear g1_b2_0)
    (try clear k1_b2_1)
    (try clear g1_b2_1)
    (try clear k1_b2_2)
    (try clear g1_b2_2)
    (try clear k1_b2_3)
    (try clear g1_b2_3)
    (try clear k1_b3_0)
    (try clear g1_b3_0)
    (try clear k1_b3_1)
    (try clear g1_b3_1)
    (try clear k1_b3_2)
    (try clear g1_b3_2)
    (try clear k1_b3_3)
    (try clear g1_b3_3)
    (try clear k1_g5_0)
    (try clear g1_g5_0)
    (try clear k1_g5_1)
    (try clear g1_g5_1)
    (try clear k1_g5_2)
    (try clear g1_g5_2)
    (try clear k1_g5_3)
    (try clear g1_g5_3)
    (try clear k1_g6_0)
    (try clear g1_g6_0)
    (try clear k1_g6_1)
    (try clear g1_g6_1)
    (try clear k1_g6_2)
    (try clear g1_g6_2)
    (try clear k1_g6_3)
    (try clear g1_g6_3)
    (try clear e1_0)
    (try clear q1_b2)
    (try clear x1_b2)
    (try clear y1_b2)
    (try clear q1_b3)
    (try clear x1_b3)
    (try clear y1_b3)
    (try clear q1_g5)
    (try clear x1_g5)
    (try clear y1_g5)
    (try clear q1_g6)
    (try clear x1_g6)
    (try clear y1_g6)
    rintro w2 ⟨k2_b2_0, g2_b2_0, k2_b2_1, g2_b2_1, k2_b2_2, g2_b2_2, k2_b2_3, g2_b2_3, k2_b3_0, g2_b3_0, k2_b3_1, g2_b3_1, k2_b3_2, g2_b3_2, k2_b3_3, g2_b3_3, k2_g5_0, g2_g5_0, k2_g5_1, g2_g5_1, k2_g5_2, g2_g5_2, k2_g5_3, g2_g5_3, k2_g6_0, g2_g6_0, k2_g6_1, g2_g6_1, k2_g6_2, g2_g6_2, k2_g6_3, g2_g6_3, e2_0, B2, z2⟩ gg
    simp only [List.take_succ_cons, List.take_zero, List.drop_succ_cons, List.drop_zero, List.cons_append, List.nil_append, List.append_nil]
    refine obe_val (by rfl) ?_ ?_
    · clear k2_b2_0 g2_b2_0 k2_b2_1 g2_b2_1 k2_b2_2 g2_b2_2 k2_b2_3 g2_b2_3 k2_b3_0 g2_b3_0 k2_b3_1 g2_b3_1 k2_b3_2 g2_b3_2 k2_b3_3 g2_b3_3 k2_g5_0 g2_g5_0 k2_g5_1 g2_g5_1 k2_g5_2 g2_g5_2 k2_g5_3 g2_g5_3 k2_g6_0 g2_g6_0 k2_g6_1 g2_g6_1 k2_g6_2 g2_g6_2 k2_g6_3 g2_g6_3 e2_0 B2 z2; intro f hf; have u5 : f 5 = (.pointer (some ⟨g5, 0, none⟩)) := (by rw [← hf]; rfl); clear hf; rintro w' ⟨h0, h1, h2, h3, h4, h5, h6, h7, h8, h9, h10, h11, h12, h13, h14, h15, h16, h17, h18, h19, h20, h21, h22, h23, h24, h25, h26, h27, h28, h29, h30, h31, h32⟩; go_simp; try exact IntWalk.i64_in _ (by omega)
    refine obe_val (by rfl) ?_ ?_
    · clear k2_b2_0 g2_b2_0 k2_b2_1 g2_b2_1 k2_b2_2 g2_b2_2 k2_b2_3 g2_b2_3 k2_b3_0 g2_b3_0 k2_b3_1 g2_b3_1 k2_b3_2 g2_b3_2 k2_b3_3 g2_b3_3 k2_g5_0 g2_g5_0 k2_g5_1 g2_g5_1 k2_g5_2 g2_g5_2 k2_g5_3 g2_g5_3 k2_g6_0 g2_g6_0 k2_g6_1 g2_g6_1 k2_g6_2 g2_g6_2 k2_g6_3 g2_g6_3 e2_0 B2 z2; intro f hf; have u6 : f 6 = (.pointer (some ⟨g6, 0, none⟩)) := (by rw [← hf]; rfl); clear hf; rintro w' ⟨h0, h1, h2, h3, h4, h5, h6, h7, h8, h9, h10, h11, h12, h13, h14, h15, h16, h17, h18, h19, h20, h21, h22, h23, h24, h25, h26, h27, h28, h29, h30, h31, h32⟩; go_simp; try exact IntWalk.i64_in _ (by omega)
    refine obe_call (by rfl) ?_ ?_ ?_
    · clear k2_b2_0 g2_b2_0 k2_b2_1 g2_b2_1 k2_b2_2 g2_b2_2 k2_b2_3 g2_b2_3 k2_b3_0 g2_b3_0 k2_b3_1 g2_b3_1 k2_b3_2 g2_b3_2 k2_b3_3 g2_b3_3 k2_g5_0 g2_g5_0 k2_g5_1 g2_g5_1 k2_g5_2 g2_g5_2 k2_g5_3 g2_g5_3 k2_g6_0 g2_g6_0 k2_g6_1 g2_g6_1 k2_g6_2 g2_g6_2 k2_g6_3 g2_g6_3 e2_0 B2 z2; intro f hf; have u15 : f 15 = (.agg #[.int .u8 r, .int .u8 g, .int .u8 b, .int .u8 255]) := (by rw [← hf]; rfl); have u16 : f 16 = (.agg #[.int .u8 s, .int .u8 t, .int .u8 u, .int .u8 255]) := (by rw [← hf]; rfl); clear hf; intro w' _; simp only [execOp, resolve, invoke, rhoF_tmp, rhoF_func, rhoF_const, u15, u16, List.map_toArray, List.map_cons, List.map_nil]; go_simp
    · clear k2_b2_0 g2_b2_0 k2_b2_1 g2_b2_1 k2_b2_2 g2_b2_2 k2_b2_3 g2_b2_3 k2_b3_0 g2_b3_0 k2_b3_1 g2_b3_1 k2_b3_2 g2_b3_2 k2_b3_3 g2_b3_3 k2_g5_0 g2_g5_0 k2_g5_1 g2_g5_1 k2_g5_2 g2_g5_2 k2_g5_3 g2_g5_3 k2_g6_0 g2_g6_0 k2_g6_1 g2_g6_1 k2_g6_2 g2_g6_2 k2_g6_3 g2_g6_3 e2_0 B2 z2; rintro w' ⟨h0, h1, h2, h3, h4, h5, h6, h7, h8, h9, h10, h11, h12, h13, h14, h15, h16, h17, h18, h19, h20, h21, h22, h23, h24, h25, h26, h27, h28, h29, h30, h31, h32⟩; exact ch _
    refine obe_val (by rfl) ?_ ?_
    · clear k2_b2_0 g2_b2_0 k2_b2_1 g2_b2_1 k2_b2_2 g2_b2_2 k2_b2_3 g2_b2_3 k2_b3_0 g2_b3_0 k2_b3_1 g2_b3_1 k2_b3_2 g2_b3_2 k2_b3_3 g2_b3_3 k2_g5_0 g2_g5_0 k2_g5_1 g2_g5_1 k2_g5_2 g2_g5_2 k2_g5_3 g2_g5_3 k2_g6_0 g2_g6_0 k2_g6_1 g2_g6_1 k2_g6_2 g2_g6_2 k2_g6_3 g2_g6_3 e2_0 B2 z2; intro f hf; have u5 : f 5 = (.pointer (some ⟨g5, 0, none⟩)) := (by rw [← hf]; rfl); clear hf; rintro w' ⟨h0, h1, h2, h3, h4, h5, h6, h7, h8, h9, h10, h11, h12, h13, h14, h15, h16, h17, h18, h19, h20, h21, h22, h23, h24, h25, h26, h27, h28, h29, h30, h31, h32⟩; go_simp; try exact IntWalk.i64_in _ (by omega)
    refine obe_val (by rfl) ?_ ?_
    · clear k2_b2_0 g2_b2_0 k2_b2_1 g2_b2_1 k2_b2_2 g2_b2_2 k2_b2_3 g2_b2_3 k2_b3_0 g2_b3_0 k2_b3_1 g2_b3_1 k2_b3_2 g2_b3_2 k2_b3_3 g2_b3_3 k2_g5_0 g2_g5_0 k2_g5_1 g2_g5_1 k2_g5_2 g2_g5_2 k2_g5_3 g2_g5_3 k2_g6_0 g2_g6_0 k2_g6_1 g2_g6_1 k2_g6_2 g2_g6_2 k2_g6_3 g2_g6_3 e2_0 B2 z2; intro f hf; have u6 : f 6 = (.pointer (some ⟨g6, 0, none⟩)) := (by rw [← hf]; rfl); clear hf; rintro w' ⟨h0, h1, h2, h3, h4, h5, h6, h7, h8, h9, h10, h11, h12, h13, h14, h15, h16, h17, h18, h19, h20, h21, h22, h23, h24, h25, h26, h27, h28, h29, h30, h31, h32⟩; go_simp; try exact IntWalk.i64_in _ (by omega)
    refine obe_call (by rfl) ?_ ?_ ?_
    · clear k2_b2_0 g2_b2_0 k2_b2_1 g2_b2_1 k2_b2_2 g2_b2_2 k2_b2_3 g2_b2_3 k2_b3_0 g2_b3_0 k2_b3_1 g2_b3_1 k2_b3_2 g2_b3_2 k2_b3_3 g2_b3_3 k2_g5_0 g2_g5_0 k2_g5_1 g2_g5_1 k2_g5_2 g2_g5_2 k2_g5_3 g2_g5_3 k2_g6_0 g2_g6_0 k2_g6_1 g2_g6_1 k2_g6_2 g2_g6_2 k2_g6_3 g2_g6_3 e2_0 B2 z2; intro f hf; have u18 : f 18 = (.agg #[.int .u8 r, .int .u8 g, .int .u8 b, .int .u8 255]) := (by rw [← hf]; rfl); have u19 : f 19 = (.agg #[.int .u8 s, .int .u8 t, .int .u8 u, .int .u8 255]) := (by rw [← hf]; rfl); clear hf; intro w' _; simp only [execOp, resolve, invoke, rhoF_tmp, rhoF_func, rhoF_const, u18, u19, List.map_toArray, List.map_cons, List.map_nil]; go_simp
    · clear k2_b2_0 g2_b2_0 k2_b2_1 g2_b2_1 k2_b2_2 g2_b2_2 k2_b2_3 g2_b2_3 k2_b3_0 g2_b3_0 k2_b3_1 g2_b3_1 k2_b3_2 g2_b3_2 k2_b3_3 g2_b3_3 k2_g5_0 g2_g5_0 k2_g5_1 g2_g5_1 k2_g5_2 g2_g5_2 k2_g5_3 g2_g5_3 k2_g6_0 g2_g6_0 k2_g6_1 g2_g6_1 k2_g6_2 g2_g6_2 k2_g6_3 g2_g6_3 e2_0 B2 z2; rintro w' ⟨h0, h1, h2, h3, h4, h5, h6, h7, h8, h9, h10, h11, h12, h13, h14, h15, h16, h17, h18, h19, h20, h21, h22, h23, h24, h25, h26, h27, h28, h29, h30, h31, h32⟩; exact cv _
    refine obe_fresh (by rfl) ?_ ?_
    · clear k2_b2_0 g2_b2_0 k2_b2_1 g2_b2_1 k2_b2_2 g2_b2_2 k2_b2_3 g2_b2_3 k2_b3_0 g2_b3_0 k2_b3_1 g2_b3_1 k2_b3_2 g2_b3_2 k2_b3_3 g2_b3_3 k2_g5_0 g2_g5_0 k2_g5_1 g2_g5_1 k2_g5_2 g2_g5_2 k2_g5_3 g2_g5_3 k2_g6_0 g2_g6_0 k2_g6_1 g2_g6_1 k2_g6_2 g2_g6_2 k2_g6_3 g2_g6_3 e2_0 B2 z2; intro f hf; clear hf; rintro w' ⟨h0, h1, h2, h3, h4, h5, h6, h7, h8, h9, h10, h11, h12, h13, h14, h15, h16, h17, h18, h19, h20, h21, h22, h23, h24, h25, h26, h27, h28, h29, h30, h31, h32⟩; go_simp
    refine obe_fresh (by rfl) ?_ ?_
    · clear k2_b2_0 g2_b2_0 k2_b2_1 g2_b2_1 k2_b2_2 g2_b2_2 k2_b2_3 g2_b2_3 k2_b3_0 g2_b3_0 k2_b3_1 g2_b3_1 k2_b3_2 g2_b3_2 k2_b3_3 g2_b3_3 k2_g5_0 g2_g5_0 k2_g5_1 g2_g5_1 k2_g5_2 g2_g5_2 k2_g5_3 g2_g5_3 k2_g6_0 g2_g6_0 k2_g6_1 g2_g6_1 k2_g6_2 g2_g6_2 k2_g6_3 g2_g6_3 e2_0 B2 z2; intro f hf; clear hf; rintro w' ⟨h0, h1, h2, h3, h4, h5, h6, h7, h8, h9, h10, h11, h12, h13, h14, h15, h16, h17, h18, h19, h20, h21, h22, h23, h24, h25, h26, h27, h28, h29, h30, h31, h32⟩; go_simp
    refine obe_nil ?_
    rintro w3 ⟨h0, h1, h2, h3, h4, h5, h6, h7, h8, h9, h10, h11, h12, h13, h14, h15, h16, h17, h18, h19, h20, h21, h22, h23, h24, h25, h26, h27, h28, h29, h30, h31, h32⟩ hb3 hF
    (try simp only [List.nil_append, List.append_nil, List.cons_append] at hF)
    simp only [puts, putD, Act.put, List.setIfInBounds_toArray, List.set_cons_zero, List.set_cons_succ]
    have lg7 : w2.heap.size ≤ gg 6 := hF.1.1
    have ug7 : gg 6 < w3.heap.size := hF.1.2.1
    have pg7 : w3.heap[gg 6]? = some (.cells #[.int .u8 0, .int .u8 0, .int .u8 0, .int .u8 0] 31) := hF.1.2.2
    have ng7_g8 : ¬ gg 6 = gg 7 := hF.2.1 (7, .cells #[.int .u8 0, .int .u8 0, .int .u8 0, .int .u8 0] 31) (by simp)
    have lg8 : w2.heap.size ≤ gg 7 := hF.2.2.1.1
    have ug8 : gg 7 < w3.heap.size := hF.2.2.1.2.1
    have pg8 : w3.heap[gg 7]? = some (.cells #[.int .u8 0, .int .u8 0, .int .u8 0, .int .u8 0] 31) := hF.2.2.1.2.2
    clear hF
    obtain ⟨g7, eg7⟩ : ∃ x, gg 6 = x := ⟨_, rfl⟩
    rw [eg7] at lg7 ug7 pg7 ng7_g8 ⊢
    clear eg7
    obtain ⟨g8, eg8⟩ : ∃ x, gg 7 = x := ⟨_, rfl⟩
    rw [eg8] at lg8 ug8 pg8 ng7_g8 ⊢
    clear eg8
    clear gg
    have k3_b2_0 := bcs hb3 k2_b2_0
    have g3_b2_0 := bfs hb3 k2_b2_0 g2_b2_0
    have k3_b2_1 := bcs hb3 k2_b2_1
    have g3_b2_1 := bfs hb3 k2_b2_1 g2_b2_1
    have k3_b2_2 := bcs hb3 k2_b2_2
    have g3_b2_2 := bfs hb3 k2_b2_2 g2_b2_2
    have k3_b2_3 := bcs hb3 k2_b2_3
    have g3_b2_3 := bfs hb3 k2_b2_3 g2_b2_3
    have k3_b3_0 := bcs hb3 k2_b3_0
    have g3_b3_0 := bfs hb3 k2_b3_0 g2_b3_0
    have k3_b3_1 := bcs hb3 k2_b3_1
    have g3_b3_1 := bfs hb3 k2_b3_1 g2_b3_1
    have k3_b3_2 := bcs hb3 k2_b3_2
    have g3_b3_2 := bfs hb3 k2_b3_2 g2_b3_2
    have k3_b3_3 := bcs hb3 k2_b3_3
    have g3_b3_3 := bfs hb3 k2_b3_3 g2_b3_3
    have k3_g5_0 := bcs hb3 k2_g5_0
    have g3_g5_0 := bfs hb3 k2_g5_0 g2_g5_0
    have k3_g5_1 := bcs hb3 k2_g5_1
    have g3_g5_1 := bfs hb3 k2_g5_1 g2_g5_1
    have k3_g5_2 := bcs hb3 k2_g5_2
    have g3_g5_2 := bfs hb3 k2_g5_2 g2_g5_2
    have k3_g5_3 := bcs hb3 k2_g5_3
    have g3_g5_3 := bfs hb3 k2_g5_3 g2_g5_3
    have k3_g6_0 := bcs hb3 k2_g6_0
    have g3_g6_0 := bfs hb3 k2_g6_0 g2_g6_0
    have k3_g6_1 := bcs hb3 k2_g6_1
    have g3_g6_1 := bfs hb3 k2_g6_1 g2_g6_1
    have k3_g6_2 := bcs hb3 k2_g6_2
    have g3_g6_2 := bfs hb3 k2_g6_2 g2_g6_2
    have k3_g6_3 := bcs hb3 k2_g6_3
    have g3_g6_3 := bfs hb3 k2_g6_3 g2_g6_3
    clear h0 h1 h2 h3 h4 h5 h6 h7 h8 h9 h10 h11 h12 h13 h14 h15 h16 h17 h18 h19 h20 h21 h22 h23 h24 h25 h26 h27 h28 h29 h30 h31 h32
    have B3 := bel_step B2 hb3
    have z3 := Nat.le_trans z2 hb3.size
    have e3_0 := Nm.below hN B3
    have mg7 : w.heap.size ≤ g7 := by omega
    have ng7_b2 : ¬ g7 = w.heap.size := by omega
    have nb2_g7 : ¬ w.heap.size = g7 := by omega
    have ng7_b3 : ¬ g7 = w.heap.size + 1 := by omega
    have nb3_g7 : ¬ w.heap.size + 1 = g7 := by omega
    have tg5 : g5 < w2.heap.size := qlt k2_g5_0
    have ng7_g5 : ¬ g7 = g5 := by omega
    have ng5_g7 : ¬ g5 = g7 := by omega
    have tg6 : g6 < w2.heap.size := qlt k2_g6_0
    have ng7_g6 : ¬ g7 = g6 := by omega
    have ng6_g7 : ¬ g6 = g7 := by omega
    have k3_g7_0 : w3.cell? ⟨g7, 0, none⟩ = some (.int .u8 0) := cob pg7 0 rfl
    have g3_g7_0 : w3.frozen? ⟨g7, 0, none⟩ = false := fob pg7 0
    have k3_g7_1 : w3.cell? ⟨g7, 1, none⟩ = some (.int .u8 0) := cob pg7 1 rfl
    have g3_g7_1 : w3.frozen? ⟨g7, 1, none⟩ = false := fob pg7 1
    have k3_g7_2 : w3.cell? ⟨g7, 2, none⟩ = some (.int .u8 0) := cob pg7 2 rfl
    have g3_g7_2 : w3.frozen? ⟨g7, 2, none⟩ = false := fob pg7 2
    have k3_g7_3 : w3.cell? ⟨g7, 3, none⟩ = some (.int .u8 0) := cob pg7 3 rfl
    have g3_g7_3 : w3.frozen? ⟨g7, 3, none⟩ = false := fob pg7 3
    have mg8 : w.heap.size ≤ g8 := by omega
    have ng8_b2 : ¬ g8 = w.heap.size := by omega
    have nb2_g8 : ¬ w.heap.size = g8 := by omega
    have ng8_b3 : ¬ g8 = w.heap.size + 1 := by omega
    have nb3_g8 : ¬ w.heap.size + 1 = g8 := by omega
    have tg5 : g5 < w2.heap.size := qlt k2_g5_0
    have ng8_g5 : ¬ g8 = g5 := by omega
    have ng5_g8 : ¬ g5 = g8 := by omega
    have tg6 : g6 < w2.heap.size := qlt k2_g6_0
    have ng8_g6 : ¬ g8 = g6 := by omega
    have ng6_g8 : ¬ g6 = g8 := by omega
    have k3_g8_0 : w3.cell? ⟨g8, 0, none⟩ = some (.int .u8 0) := cob pg8 0 rfl
    have g3_g8_0 : w3.frozen? ⟨g8, 0, none⟩ = false := fob pg8 0
    have k3_g8_1 : w3.cell? ⟨g8, 1, none⟩ = some (.int .u8 0) := cob pg8 1 rfl
    have g3_g8_1 : w3.frozen? ⟨g8, 1, none⟩ = false := fob pg8 1
    have k3_g8_2 : w3.cell? ⟨g8, 2, none⟩ = some (.int .u8 0) := cob pg8 2 rfl
    have g3_g8_2 : w3.frozen? ⟨g8, 2, none⟩ = false := fob pg8 2
    have k3_g8_3 : w3.cell? ⟨g8, 3, none⟩ = some (.int .u8 0) := cob pg8 3 rfl
    have g3_g8_3 : w3.frozen? ⟨g8, 3, none⟩ = false := fob pg8 3
    have ng8_g7 : ¬ g8 = g7 := fun h => ng7_g8 h.symm
    clear lg7 ug7 pg7
    clear lg8 ug8 pg8
    clear hb3
    (try clear B2)
    (try clear z2)
    (try clear k2_b2_0)
    (try clear g2_b2_0)
    (try clear k2_b2_1)
    (try clear g2_b2_1)
    (try clear k2_b2_2)
    (try clear g2_b2_2)
    (try clear k2_b2_3)
    (try clear g2_b2_3)
    (try clear k2_b3_0)
    (try clear g2_b3_0)
    (try clear k2_b3_1)
    (try clear g2_b3_1)
    (try clear k2_b3_2)
    (try clear g2_b3_2)
    (try clear k2_b3_3)
    (try clear g2_b3_3)
    (try clear k2_g5_0)
    (try clear g2_g5_0)
    (try clear k2_g5_1)
    (try clear g2_g5_1)
    (try clear k2_g5_2)
    (try clear g2_g5_2)
    (try clear k2_g5_3)
    (try clear g2_g5_3)
    (try clear k2_g6_0)
    (try clear g2_g6_0)
    (try clear k2_g6_1)
    (try clear g2_g6_1)
    (try clear k2_g6_2)
    (try clear g2_g6_2)
    (try clear k2_g6_3)
    (try clear g2_g6_3)
    (try clear e2_0)
    (try clear q2_b2)
    (try clear x2_b2)
    (try clear y2_b2)
    (try clear q2_b3)
    (try clear x2_b3)
    (try clear y2_b3)
    (try clear q2_g5)
    (try clear x2_g5)
    (try clear y2_g5)
    (try clear q2_g6)
    (try clear x2_g6)
    (try clear y2_g6)
    have q3_b2 : w.heap.size < w3.heap.size := qlt k3_b2_0
    have x3_b2 : ¬ w.heap.size = w3.heap.size := qne k3_b2_0
    have y3_b2 : ¬ w3.heap.size = w.heap.size := fun h => qne k3_b2_0 h.symm
    have q3_b3 : w.heap.size + 1 < w3.heap.size := qlt k3_b3_0
    have x3_b3 : ¬ w.heap.size + 1 = w3.heap.size := qne k3_b3_0
    have y3_b3 : ¬ w3.heap.size = w.heap.size + 1 := fun h => qne k3_b3_0 h.symm
    have q3_g5 : g5 < w3.heap.size := qlt k3_g5_0
    have x3_g5 : ¬ g5 = w3.heap.size := qne k3_g5_0
    have y3_g5 : ¬ w3.heap.size = g5 := fun h => qne k3_g5_0 h.symm
    have q3_g6 : g6 < w3.heap.size := qlt k3_g6_0
    have x3_g6 : ¬ g6 = w3.heap.size := qne k3_g6_0
    have y3_g6 : ¬ w3.heap.size = g6 := fun h => qne k3_g6_0 h.symm
    have q3_g7 : g7 < w3.heap.size := qlt k3_g7_0
    have x3_g7 : ¬ g7 = w3.heap.size := qne k3_g7_0
    have y3_g7 : ¬ w3.heap.size = g7 := fun h => qne k3_g7_0 h.symm
    have q3_g8 : g8 < w3.heap.size := qlt k3_g8_0
    have x3_g8 : ¬ g8 = w3.heap.size := qne k3_g8_0
    have y3_g8 : ¬ w3.heap.size = g8 := fun h => qne k3_g8_0 h.symm
    go_wp2
    refine wp_region_env (fun w' => w'.cell? ⟨w.heap.size, 0, none⟩ = some (.int .u8 r) ∧ w'.frozen? ⟨w.heap.size, 0, none⟩ = false ∧ w'.cell? ⟨w.heap.size, 1, none⟩ = some (.int .u8 g) ∧ w'.frozen? ⟨w.heap.size, 1, none⟩ = false ∧ w'.cell? ⟨w.heap.size, 2, none⟩ = some (.int .u8 b) ∧ w'.frozen? ⟨w.heap.size, 2, none⟩ = false ∧ w'.cell? ⟨w.heap.size, 3, none⟩ = some (.int .u8 a) ∧ w'.frozen? ⟨w.heap.size, 3, none⟩ = false ∧ w'.cell? ⟨w.heap.size + 1, 0, none⟩ = some (.int .u8 s) ∧ w'.frozen? ⟨w.heap.size + 1, 0, none⟩ = false ∧ w'.cell? ⟨w.heap.size + 1, 1, none⟩ = some (.int .u8 t) ∧ w'.frozen? ⟨w.heap.size + 1, 1, none⟩ = false ∧ w'.cell? ⟨w.heap.size + 1, 2, none⟩ = some (.int .u8 u) ∧ w'.frozen? ⟨w.heap.size + 1, 2, none⟩ = false ∧ w'.cell? ⟨w.heap.size + 1, 3, none⟩ = some (.int .u8 d) ∧ w'.frozen? ⟨w.heap.size + 1, 3, none⟩ = false ∧ w'.cell? ⟨g5, 0, none⟩ = some (.int .u8 r) ∧ w'.frozen? ⟨g5, 0, none⟩ = false ∧ w'.cell? ⟨g5, 1, none⟩ = some (.int .u8 g) ∧ w'.frozen? ⟨g5, 1, none⟩ = false ∧ w'.cell? ⟨g5, 2, none⟩ = some (.int .u8 b) ∧ w'.frozen? ⟨g5, 2, none⟩ = false ∧ w'.cell? ⟨g5, 3, none⟩ = some (.int .u8 255) ∧ w'.frozen? ⟨g5, 3, none⟩ = false ∧ w'.cell? ⟨g6, 0, none⟩ = some (.int .u8 s) ∧ w'.frozen? ⟨g6, 0, none⟩ = false ∧ w'.cell? ⟨g6, 1, none⟩ = some (.int .u8 t) ∧ w'.frozen? ⟨g6, 1, none⟩ = false ∧ w'.cell? ⟨g6, 2, none⟩ = some (.int .u8 u) ∧ w'.frozen? ⟨g6, 2, none⟩ = false ∧ w'.cell? ⟨g6, 3, none⟩ = some (.int .u8 255) ∧ w'.frozen? ⟨g6, 3, none⟩ = false ∧ w'.cell? ⟨g7, 0, none⟩ = some (.int .u8 hq0) ∧ w'.frozen? ⟨g7, 0, none⟩ = false ∧ w'.cell? ⟨g7, 1, none⟩ = some (.int .u8 hq1) ∧ w'.frozen? ⟨g7, 1, none⟩ = false ∧ w'.cell? ⟨g7, 2, none⟩ = some (.int .u8 hq2) ∧ w'.frozen? ⟨g7, 2, none⟩ = false ∧ w'.cell? ⟨g7, 3, none⟩ = some (.int .u8 255) ∧ w'.frozen? ⟨g7, 3, none⟩ = false ∧ w'.cell? ⟨g8, 0, none⟩ = some (.int .u8 vq0) ∧ w'.frozen? ⟨g8, 0, none⟩ = false ∧ w'.cell? ⟨g8, 1, none⟩ = some (.int .u8 vq1) ∧ w'.frozen? ⟨g8, 1, none⟩ = false ∧ w'.cell? ⟨g8, 2, none⟩ = some (.int .u8 vq2) ∧ w'.frozen? ⟨g8, 2, none⟩ = false ∧ w'.cell? ⟨g8, 3, none⟩ = some (.int .u8 255) ∧ w'.frozen? ⟨g8, 3, none⟩ = false ∧ Nm w') (fun W => W.cell? ⟨w.heap.size, 0, none⟩ = some (.int .u8 r) ∧ W.frozen? ⟨w.heap.size, 0, none⟩ = false ∧ W.cell? ⟨w.heap.size, 1, none⟩ = some (.int .u8 g) ∧ W.frozen? ⟨w.heap.size, 1, none⟩ = false ∧ W.cell? ⟨w.heap.size, 2, none⟩ = some (.int .u8 b) ∧ W.frozen? ⟨w.heap.size, 2, none⟩ = false ∧ W.cell? ⟨w.heap.size, 3, none⟩ = some (.int .u8 a) ∧ W.frozen? ⟨w.heap.size, 3, none⟩ = false ∧ W.cell? ⟨w.heap.size + 1, 0, none⟩ = some (.int .u8 s) ∧ W.frozen? ⟨w.heap.size + 1, 0, none⟩ = false ∧ W.cell? ⟨w.heap.size + 1, 1, none⟩ = some (.int .u8 t) ∧ W.frozen? ⟨w.heap.size + 1, 1, none⟩ = false ∧ W.cell? ⟨w.heap.size + 1, 2, none⟩ = some (.int .u8 u) ∧ W.frozen? ⟨w.heap.size + 1, 2, none⟩ = false ∧ W.cell? ⟨w.heap.size + 1, 3, none⟩ = some (.int .u8 d) ∧ W.frozen? ⟨w.heap.size + 1, 3, none⟩ = false ∧ W.cell? ⟨g5, 0, none⟩ = some (.int .u8 r) ∧ W.frozen? ⟨g5, 0, none⟩ = false ∧ W.cell? ⟨g5, 1, none⟩ = some (.int .u8 g) ∧ W.frozen? ⟨g5, 1, none⟩ = false ∧ W.cell? ⟨g5, 2, none⟩ = some (.int .u8 b) ∧ W.frozen? ⟨g5, 2, none⟩ = false ∧ W.cell? ⟨g5, 3, none⟩ = some (.int .u8 255) ∧ W.frozen? ⟨g5, 3, none⟩ = false ∧ W.cell? ⟨g6, 0, none⟩ = some (.int .u8 s) ∧ W.frozen? ⟨g6, 0, none⟩ = false ∧ W.cell? ⟨g6, 1, none⟩ = some (.int .u8 t) ∧ W.frozen? ⟨g6, 1, none⟩ = false ∧ W.cell? ⟨g6, 2, none⟩ = some (.int .u8 u) ∧ W.frozen? ⟨g6, 2, none⟩ = false ∧ W.cell? ⟨g6, 3, none⟩ = some (.int .u8 255) ∧ W.frozen? ⟨g6, 3, none⟩ = false ∧ W.cell? ⟨g7, 0, none⟩ = some (.int .u8 hq0) ∧ W.frozen? ⟨g7, 0, none⟩ = false ∧ W.cell? ⟨g7, 1, none⟩ = some (.int .u8 hq1) ∧ W.frozen? ⟨g7, 1, none⟩ = false ∧ W.cell? ⟨g7, 2, none⟩ = some (.int .u8 hq2) ∧ W.frozen? ⟨g7, 2, none⟩ = false ∧ W.cell? ⟨g7, 3, none⟩ = some (.int .u8 255) ∧ W.frozen? ⟨g7, 3, none⟩ = false ∧ W.cell? ⟨g8, 0, none⟩ = some (.int .u8 vq0) ∧ W.frozen? ⟨g8, 0, none⟩ = false ∧ W.cell? ⟨g8, 1, none⟩ = some (.int .u8 vq1) ∧ W.frozen? ⟨g8, 1, none⟩ = false ∧ W.cell? ⟨g8, 2, none⟩ = some (.int .u8 vq2) ∧ W.frozen? ⟨g8, 2, none⟩ = false ∧ W.cell? ⟨g8, 3, none⟩ = some (.int .u8 255) ∧ W.frozen? ⟨g8, 3, none⟩ = false ∧ Nm W ∧ Below w.heap.size w W ∧ w.heap.size + 1 + 1 ≤ W.heap.size) 8 76 [.val (.agg #[.int .u8 r, .int .u8 g, .int .u8 b, .int .u8 255]), .val (.agg #[.int .u8 s, .int .u8 t, .int .u8 u, .int .u8 255]), .call 23 #[.int .i64 12, .agg #[.int .u8 r, .int .u8 g, .int .u8 b, .int .u8 255], .agg #[.int .u8 s, .int .u8 t, .int .u8 u, .int .u8 255]] (.agg #[.int .u8 jq0, .int .u8 jq1, .int .u8 jq2, .int .u8 255]), .val (.agg #[.int .u8 r, .int .u8 g, .int .u8 b, .int .u8 255]), .val (.agg #[.int .u8 s, .int .u8 t, .int .u8 u, .int .u8 255]), .call 23 #[.int .i64 13, .agg #[.int .u8 r, .int .u8 g, .int .u8 b, .int .u8 255], .agg #[.int .u8 s, .int .u8 t, .int .u8 u, .int .u8 255]] (.agg #[.int .u8 kq0, .int .u8 kq1, .int .u8 kq2, .int .u8 255]), .fresh (.cells #[.int .u8 0, .int .u8 0, .int .u8 0, .int .u8 0] 31), .fresh (.cells #[.int .u8 0, .int .u8 0, .int .u8 0, .int .u8 0] 31)] (by kernel_rfl) (by kernel_rfl) rfl (by kernel_rfl) (by rintro w1 w2 ⟨h0, h1, h2, h3, h4, h5, h6, h7, h8, h9, h10, h11, h12, h13, h14, h15, h16, h17, h18, h19, h20, h21, h22, h23, h24, h25, h26, h27, h28, h29, h30, h31, h32, h33, h34, h35, h36, h37, h38, h39, h40, h41, h42, h43, h44, h45, h46, h47, h48⟩ hb; exact ⟨bcs hb h0, bfs hb h0 h1, bcs hb h2, bfs hb h2 h3, bcs hb h4, bfs hb h4 h5, bcs hb h6, bfs hb h6 h7, bcs hb h8, bfs hb h8 h9, bcs hb h10, bfs hb h10 h11, bcs hb h12, bfs hb h12 h13, bcs hb h14, bfs hb h14 h15, bcs hb h16, bfs hb h16 h17, bcs hb h18, bfs hb h18 h19, bcs hb h20, bfs hb h20 h21, bcs hb h22, bfs hb h22 h23, bcs hb h24, bfs hb h24 h25, bcs hb h26, bfs hb h26 h27, bcs hb h28, bfs hb h28 h29, bcs hb h30, bfs hb h30 h31, bcs hb h32, bfs hb h32 h33, bcs hb h34, bfs hb h34 h35, bcs hb h36, bfs hb h36 h37, bcs hb h38, bfs hb h38 h39, bcs hb h40, bfs hb h40 h41, bcs hb h42, bfs hb h42 h43, bcs hb h44, bfs hb h44 h45, bcs hb h46, bfs hb h46 h47, Nm.below h48 hb⟩) ⟨by first | with_reducible assumption | go_simp, by first | with_reducible assumption | go_simp, by first | with_reducible assumption | go_simp, by first | with_reducible assumption | go_simp, by first | with_reducible assumption | go_simp, by first | with_reducible assumption | go_simp, by first | with_reducible assumption | go_simp, by first | with_reducible assumption | go_simp, by first | with_reducible assumption | go_simp, by first | with_reducible assumption | go_simp, by first | with_reducible assumption | go_simp, by first | with_reducible assumption | go_simp, by first | with_reducible assumption | go_simp, by first | with_reducible assumption | go_simp, by first | with_reducible assumption | go_simp, by first | with_reducible assumption | go_simp, by first | with_reducible assumption | go_simp, by first | with_reducible assumption | go_simp, by first | with_reducible assumption | go_simp, by first | with_reducible assumption | go_simp, by first | with_reducible assumption | go_simp, by first | with_reducible assumption | go_simp, by first | with_reducible assumption | go_simp, by first | with_reducible assumption | go_simp, by first | with_reducible assumption | go_simp, by first | with_reducible assumption | go_simp, by first | with_reducible assumption | go_simp, by first | with_reducible assumption | go_simp, by first | with_reducible assumption | go_simp, by first | with_reducible assumption | go_simp, by first | with_reducible assumption | go_simp, by first | with_reducible assumption | go_simp, by first | with_reducible assumption | go_simp, by first | with_reducible assumption | go_simp, by first | with_reducible assumption | go_simp, by first | with_reducible assumption | go_simp, by first | with_reducible assumption | go_simp, by first | with_reducible assumption | go_simp, by first | with_reducible assumption | go_simp, by first | with_reducible assumption | go_simp, by first | with_reducible assumption | go_simp, by first | with_reducible assumption | go_simp, by first | with_reducible assumption | go_simp, by first | with_reducible assumption | go_simp, by first | with_reducible assumption | go_simp, by first | with_reducible assumption | go_simp, by first | with_reducible assumption | go_simp, by first | with_reducible assumption | go_simp, Nm.below hN (by repeat (first | with_reducible exact Below.refl _ _ | with_reducible exact B3 | with_reducible apply below_drewN | with_reducible apply Below.drew | (with_reducible refine Below.alloc ?_ (by first | (simp; done) | (simp; omega) | omega) _) | (with_reducible refine Below.setCell ?_ (by first | (simp; done) | (simp; omega) | omega) _))), by repeat (first | with_reducible exact Below.refl _ _ | with_reducible exact B3 | with_reducible apply below_drewN | with_reducible apply Below.drew | (with_reducible refine Below.alloc ?_ (by first | (simp; done) | (simp; omega) | omega) _) | (with_reducible refine Below.setCell ?_ (by first | (simp; done) | (simp; omega) | omega) _)), by first | with_reducible assumption | (simp; done) | (simp; omega)⟩ ?_ ?_
    · rintro W ⟨k4_b2_0, g4_b2_0, k4_b2_1, g4_b2_1, k4_b2_2, g4_b2_2, k4_b2_3, g4_b2_3, k4_b3_0, g4_b3_0, k4_b3_1, g4_b3_1, k4_b3_2, g4_b3_2, k4_b3_3, g4_b3_3, k4_g5_0, g4_g5_0, k4_g5_1, g4_g5_1, k4_g5_2, g4_g5_2, k4_g5_3, g4_g5_3, k4_g6_0, g4_g6_0, k4_g6_1, g4_g6_1, k4_g6_2, g4_g6_2, k4_g6_3, g4_g6_3, k4_g7_0, g4_g7_0, k4_g7_1, g4_g7_1, k4_g7_2, g4_g7_2, k4_g7_3, g4_g7_3, k4_g8_0, g4_g8_0, k4_g8_1, g4_g8_1, k4_g8_2, g4_g8_2, k4_g8_3, g4_g8_3, e4_0, B4, z4⟩; exact ⟨k4_b2_0, g4_b2_0, k4_b2_1, g4_b2_1, k4_b2_2, g4_b2_2, k4_b2_3, g4_b2_3, k4_b3_0, g4_b3_0, k4_b3_1, g4_b3_1, k4_b3_2, g4_b3_2, k4_b3_3, g4_b3_3, k4_g5_0, g4_g5_0, k4_g5_1, g4_g5_1, k4_g5_2, g4_g5_2, k4_g5_3, g4_g5_3, k4_g6_0, g4_g6_0, k4_g6_1, g4_g6_1, k4_g6_2, g4_g6_2, k4_g6_3, g4_g6_3, k4_g7_0, g4_g7_0, k4_g7_1, g4_g7_1, k4_g7_2, g4_g7_2, k4_g7_3, g4_g7_3, k4_g8_0, g4_g8_0, k4_g8_1, g4_g8_1, k4_g8_2, g4_g8_2, k4_g8_3, g4_g8_3, e4_0⟩
    (try clear B3)
    (try clear z3)
    (try clear k3_b2_0)
    (try clear g3_b2_0)
    (try clear k3_b2_1)
    (try clear g3_b2_1)
    (try clear k3_b2_2)
    (try clear g3_b2_2)
    (try clear k3_b2_3)
    (try clear g3_b2_3)
    (try clear k3_b3_0)
    (try clear g3_b3_0)
    (try clear k3_b3_1)
    (try clear g3_b3_1)
    (try clear k3_b3_2)
    (try clear g3_b3_2)
    (try clear k3_b3_3)
    (try clear g3_b3_3)
    (try clear k3_g5_0)
    (try clear g3_g5_0)
    (try clear k3_g5_1)
    (try clear g3_g5_1)
    (try clear k3_g5_2)
    (try clear g3_g5_2)
    (try clear k3_g5_3)
    (try clear g3_g5_3)
    (try clear k3_g6_0)
    (try clear g3_g6_0)
    (try clear k3_g6_1)
    (try clear g3_g6_1)
    (try clear k3_g6_2)
    (try clear g3_g6_2)
    (try clear k3_g6_3)
    (try clear g3_g6_3)
    (try clear k3_g7_0)
    (try clear g3_g7_0)
    (try clear k3_g7_1)
    (try clear g3_g7_1)
    (try clear k3_g7_2)
    (try clear g3_g7_2)
    (try clear k3_g7_3)
    (try clear g3_g7_3)
    (try clear k3_g8_0)
    (try clear g3_g8_0)
    (try clear k3_g8_1)
    (try clear g3_g8_1)
    (try clear k3_g8_2)
    (try clear g3_g8_2)
    (try clear k3_g8_3)
    (try clear g3_g8_3)
    (try clear e3_0)
    (try clear q3_b2)
    (try clear x3_b2)
    (try clear y3_b2)
    (try clear q3_b3)
    (try clear x3_b3)
    (try clear y3_b3)
    (try clear q3_g5)
    (try clear x3_g5)
    (try clear y3_g5)
    (try clear q3_g6)
    (try clear x3_g6)
    (try clear y3_g6)
    (try clear q3_g7)
    (try clear x3_g7)
    (try clear y3_g7)
    (try clear q3_g8)
    (try clear x3_g8)
    (try clear y3_g8)
    rintro w4 ⟨k4_b2_0, g4_b2_0, k4_b2_1, g4_b2_1, k4_b2_2, g4_b2_2, k4_b2_3, g4_b2_3, k4_b3_0, g4_b3_0, k4_b3_1, g4_b3_1, k4_b3_2, g4_b3_2, k4_b3_3, g4_b3_3, k4_g5_0, g4_g5_0, k4_g5_1, g4_g5_1, k4_g5_2, g4_g5_2, k4_g5_3, g4_g5_3, k4_g6_0, g4_g6_0, k4_g6_1, g4_g6_1, k4_g6_2, g4_g6_2, k4_g6_3, g4_g6_3, k4_g7_0, g4_g7_0, k4_g7_1, g4_g7_1, k4_g7_2, g4_g7_2, k4_g7_3, g4_g7_3, k4_g8_0, g4_g8_0, k4_g8_1, g4_g8_1, k4_g8_2, g4_g8_2, k4_g8_3, g4_g8_3, e4_0, B4, z4⟩ gg
    simp only [List.take_succ_cons, List.take_zero, List.drop_succ_cons, List.drop_zero, List.cons_append, List.nil_append, List.append_nil]
    refine obe_val (by rfl) ?_ ?_
    · clear k4_b2_0 g4_b2_0 k4_b2_1 g4_b2_1 k4_b2_2 g4_b2_2 k4_b2_3 g4_b2_3 k4_b3_0 g4_b3_0 k4_b3_1 g4_b3_1 k4_b3_2 g4_b3_2 k4_b3_3 g4_b3_3 k4_g5_0 g4_g5_0 k4_g5_1 g4_g5_1 k4_g5_2 g4_g5_2 k4_g5_3 g4_g5_3 k4_g6_0 g4_g6_0 k4_g6_1 g4_g6_1 k4_g6_2 g4_g6_2 k4_g6_3 g4_g6_3 k4_g7_0 g4_g7_0 k4_g7_1 g4_g7_1 k4_g7_2 g4_g7_2 k4_g7_3 g4_g7_3 k4_g8_0 g4_g8_0 k4_g8_1 g4_g8_1 k4_g8_2 g4_g8_2 k4_g8_3 g4_g8_3 e4_0 B4 z4; intro f hf; have u5 : f 5 = (.pointer (some ⟨g5, 0, none⟩)) := (by rw [← hf]; rfl); clear hf; rintro w' ⟨h0, h1, h2, h3, h4, h5, h6, h7, h8, h9, h10, h11, h12, h13, h14, h15, h16, h17, h18, h19, h20, h21, h22, h23, h24, h25, h26, h27, h28, h29, h30, h31, h32, h33, h34, h35, h36, h37, h38, h39, h40, h41, h42, h43, h44, h45, h46, h47, h48⟩; go_simp; try exact IntWalk.i64_in _ (by omega)
    refine obe_val (by rfl) ?_ ?_
    · clear k4_b2_0 g4_b2_0 k4_b2_1 g4_b2_1 k4_b2_2 g4_b2_2 k4_b2_3 g4_b2_3 k4_b3_0 g4_b3_0 k4_b3_1 g4_b3_1 k4_b3_2 g4_b3_2 k4_b3_3 g4_b3_3 k4_g5_0 g4_g5_0 k4_g5_1 g4_g5_1 k4_g5_2 g4_g5_2 k4_g5_3 g4_g5_3 k4_g6_0 g4_g6_0 k4_g6_1 g4_g6_1 k4_g6_2 g4_g6_2 k4_g6_3 g4_g6_3 k4_g7_0 g4_g7_0 k4_g7_1 g4_g7_1 k4_g7_2 g4_g7_2 k4_g7_3 g4_g7_3 k4_g8_0 g4_g8_0 k4_g8_1 g4_g8_1 k4_g8_2 g4_g8_2 k4_g8_3 g4_g8_3 e4_0 B4 z4; intro f hf; have u6 : f 6 = (.pointer (some ⟨g6, 0, none⟩)) := (by rw [← hf]; rfl); clear hf; rintro w' ⟨h0, h1, h2, h3, h4, h5, h6, h7, h8, h9, h10, h11, h12, h13, h14, h15, h16, h17, h18, h19, h20, h21, h22, h23, h24, h25, h26, h27, h28, h29, h30, h31, h32, h33, h34, h35, h36, h37, h38, h39, h40, h41, h42, h43, h44, h45, h46, h47, h48⟩; go_simp; try exact IntWalk.i64_in _ (by omega)
    refine obe_call (by rfl) ?_ ?_ ?_
    · clear k4_b2_0 g4_b2_0 k4_b2_1 g4_b2_1 k4_b2_2 g4_b2_2 k4_b2_3 g4_b2_3 k4_b3_0 g4_b3_0 k4_b3_1 g4_b3_1 k4_b3_2 g4_b3_2 k4_b3_3 g4_b3_3 k4_g5_0 g4_g5_0 k4_g5_1 g4_g5_1 k4_g5_2 g4_g5_2 k4_g5_3 g4_g5_3 k4_g6_0 g4_g6_0 k4_g6_1 g4_g6_1 k4_g6_2 g4_g6_2 k4_g6_3 g4_g6_3 k4_g7_0 g4_g7_0 k4_g7_1 g4_g7_1 k4_g7_2 g4_g7_2 k4_g7_3 g4_g7_3 k4_g8_0 g4_g8_0 k4_g8_1 g4_g8_1 k4_g8_2 g4_g8_2 k4_g8_3 g4_g8_3 e4_0 B4 z4; intro f hf; have u21 : f 21 = (.agg #[.int .u8 r, .int .u8 g, .int .u8 b, .int .u8 255]) := (by rw [← hf]; rfl); have u22 : f 22 = (.agg #[.int .u8 s, .int .u8 t, .int .u8 u, .int .u8 255]) := (by rw [← hf]; rfl); clear hf; intro w' _; simp only [execOp, resolve, invoke, rhoF_tmp, rhoF_func, rhoF_const, u21, u22, List.map_toArray, List.map_cons, List.map_nil]; go_simp
    · clear k4_b2_0 g4_b2_0 k4_b2_1 g4_b2_1 k4_b2_2 g4_b2_2 k4_b2_3 g4_b2_3 k4_b3_0 g4_b3_0 k4_b3_1 g4_b3_1 k4_b3_2 g4_b3_2 k4_b3_3 g4_b3_3 k4_g5_0 g4_g5_0 k4_g5_1 g4_g5_1 k4_g5_2 g4_g5_2 k4_g5_3 g4_g5_3 k4_g6_0 g4_g6_0 k4_g6_1 g4_g6_1 k4_g6_2 g4_g6_2 k4_g6_3 g4_g6_3 k4_g7_0 g4_g7_0 k4_g7_1 g4_g7_1 k4_g7_2 g4_g7_2 k4_g7_3 g4_g7_3 k4_g8_0 g4_g8_0 k4_g8_1 g4_g8_1 k4_g8_2 g4_g8_2 k4_g8_3 g4_g8_3 e4_0 B4 z4; rintro w' ⟨h0, h1, h2, h3, h4, h5, h6, h7, h8, h9, h10, h11, h12, h13, h14, h15, h16, h17, h18, h19, h20, h21, h22, h23, h24, h25, h26, h27, h28, h29, h30, h31, h32, h33, h34, h35, h36, h37, h38, h39, h40, h41, h42, h43, h44, h45, h46, h47, h48⟩; exact cj _
    refine obe_val (by rfl) ?_ ?_
    · clear k4_b2_0 g4_b2_0 k4_b2_1 g4_b2_1 k4_b2_2 g4_b2_2 k4_b2_3 g4_b2_3 k4_b3_0 g4_b3_0 k4_b3_1 g4_b3_1 k4_b3_2 g4_b3_2 k4_b3_3 g4_b3_3 k4_g5_0 g4_g5_0 k4_g5_1 g4_g5_1 k4_g5_2 g4_g5_2 k4_g5_3 g4_g5_3 k4_g6_0 g4_g6_0 k4_g6_1 g4_g6_1 k4_g6_2 g4_g6_2 k4_g6_3 g4_g6_3 k4_g7_0 g4_g7_0 k4_g7_1 g4_g7_1 k4_g7_2 g4_g7_2 k4_g7_3 g4_g7_3 k4_g8_0 g4_g8_0 k4_g8_1 g4_g8_1 k4_g8_2 g4_g8_2 k4_g8_3 g4_g8_3 e4_0 B4 z4; intro f hf; have u5 : f 5 = (.pointer (some ⟨g5, 0, none⟩)) := (by rw [← hf]; rfl); clear hf; rintro w' ⟨h0, h1, h2, h3, h4, h5, h6, h7, h8, h9, h10, h11, h12, h13, h14, h15, h16, h17, h18, h19, h20, h21, h22, h23, h24, h25, h26, h27, h28, h29, h30, h31, h32, h33, h34, h35, h36, h37, h38, h39, h40, h41, h42, h43, h44, h45, h46, h47, h48⟩; go_simp; try exact IntWalk.i64_in _ (by omega)
    refine obe_val (by rfl) ?_ ?_
    · clear k4_b2_0 g4_b2_0 k4_b2_1 g4_b2_1 k4_b2_2 g4_b2_2 k4_b2_3 g4_b2_3 k4_b3_0 g4_b3_0 k4_b3_1 g4_b3_1 k4_b3_2 g4_b3_2 k4_b3_3 g4_b3_3 k4_g5_0 g4_g5_0 k4_g5_1 g4_g5_1 k4_g5_2 g4_g5_2 k4_g5_3 g4_g5_3 k4_g6_0 g4_g6_0 k4_g6_1 g4_g6_1 k4_g6_2 g4_g6_2 k4_g6_3 g4_g6_3 k4_g7_0 g4_g7_0 k4_g7_1 g4_g7_1 k4_g7_2 g4_g7_2 k4_g7_3 g4_g7_3 k4_g8_0 g4_g8_0 k4_g8_1 g4_g8_1 k4_g8_2 g4_g8_2 k4_g8_3 g4_g8_3 e4_0 B4 z4; intro f hf; have u6 : f 6 = (.pointer (some ⟨g6, 0, none⟩)) := (by rw [← hf]; rfl); clear hf; rintro w' ⟨h0, h1, h2, h3, h4, h5, h6, h7, h8, h9, h10, h11, h12, h13, h14, h15, h16, h17, h18, h19, h20, h21, h22, h23, h24, h25, h26, h27, h28, h29, h30, h31, h32, h33, h34, h35, h36, h37, h38, h39, h40, h41, h42, h43, h44, h45, h46, h47, h48⟩; go_simp; try exact IntWalk.i64_in _ (by omega)
    refine obe_call (by rfl) ?_ ?_ ?_
    · clear k4_b2_0 g4_b2_0 k4_b2_1 g4_b2_1 k4_b2_2 g4_b2_2 k4_b2_3 g4_b2_3 k4_b3_0 g4_b3_0 k4_b3_1 g4_b3_1 k4_b3_2 g4_b3_2 k4_b3_3 g4_b3_3 k4_g5_0 g4_g5_0 k4_g5_1 g4_g5_1 k4_g5_2 g4_g5_2 k4_g5_3 g4_g5_3 k4_g6_0 g4_g6_0 k4_g6_1 g4_g6_1 k4_g6_2 g4_g6_2 k4_g6_3 g4_g6_3 k4_g7_0 g4_g7_0 k4_g7_1 g4_g7_1 k4_g7_2 g4_g7_2 k4_g7_3 g4_g7_3 k4_g8_0 g4_g8_0 k4_g8_1 g4_g8_1 k4_g8_2 g4_g8_2 k4_g8_3 g4_g8_3 e4_0 B4 z4; intro f hf; have u24 : f 24 = (.agg #[.int .u8 r, .int .u8 g, .int .u8 b, .int .u8 255]) := (by rw [← hf]; rfl); have u25 : f 25 = (.agg #[.int .u8 s, .int .u8 t, .int .u8 u, .int .u8 255]) := (by rw [← hf]; rfl); clear hf; intro w' _; simp only [execOp, resolve, invoke, rhoF_tmp, rhoF_func, rhoF_const, u24, u25, List.map_toArray, List.map_cons, List.map_nil]; go_simp
    · clear k4_b2_0 g4_b2_0 k4_b2_1 g4_b2_1 k4_b2_2 g4_b2_2 k4_b2_3 g4_b2_3 k4_b3_0 g4_b3_0 k4_b3_1 g4_b3_1 k4_b3_2 g4_b3_2 k4_b3_3 g4_b3_3 k4_g5_0 g4_g5_0 k4_g5_1 g4_g5_1 k4_g5_2 g4_g5_2 k4_g5_3 g4_g5_3 k4_g6_0 g4_g6_0 k4_g6_1 g4_g6_1 k4_g6_2 g4_g6_2 k4_g6_3 g4_g6_3 k4_g7_0 g4_g7_0 k4_g7_1 g4_g7_1 k4_g7_2 g4_g7_2 k4_g7_3 g4_g7_3 k4_g8_0 g4_g8_0 k4_g8_1 g4_g8_1 k4_g8_2 g4_g8_2 k4_g8_3 g4_g8_3 e4_0 B4 z4; rintro w' ⟨h0, h1, h2, h3, h4, h5, h6, h7, h8, h9, h10, h11, h12, h13, h14, h15, h16, h17, h18, h19, h20, h21, h22, h23, h24, h25, h26, h27, h28, h29, h30, h31, h32, h33, h34, h35, h36, h37, h38, h39, h40, h41, h42, h43, h44, h45, h46, h47, h48⟩; exact ck _
    refine obe_fresh (by rfl) ?_ ?_
    · clear k4_b2_0 g4_b2_0 k4_b2_1 g4_b2_1 k4_b2_2 g4_b2_2 k4_b2_3 g4_b2_3 k4_b3_0 g4_b3_0 k4_b3_1 g4_b3_1 k4_b3_2 g4_b3_2 k4_b3_3 g4_b3_3 k4_g5_0 g4_g5_0 k4_g5_1 g4_g5_1 k4_g5_2 g4_g5_2 k4_g5_3 g4_g5_3 k4_g6_0 g4_g6_0 k4_g6_1 g4_g6_1 k4_g6_2 g4_g6_2 k4_g6_3 g4_g6_3 k4_g7_0 g4_g7_0 k4_g7_1 g4_g7_1 k4_g7_2 g4_g7_2 k4_g7_3 g4_g7_3 k4_g8_0 g4_g8_0 k4_g8_1 g4_g8_1 k4_g8_2 g4_g8_2 k4_g8_3 g4_g8_3 e4_0 B4 z4; intro f hf; clear hf; rintro w' ⟨h0, h1, h2, h3, h4, h5, h6, h7, h8, h9, h10, h11, h12, h13, h14, h15, h16, h17, h18, h19, h20, h21, h22, h23, h24, h25, h26, h27, h28, h29, h30, h31, h32, h33, h34, h35, h36, h37, h38, h39, h40, h41, h42, h43, h44, h45, h46, h47, h48⟩; go_simp
    refine obe_fresh (by rfl) ?_ ?_
    · clear k4_b2_0 g4_b2_0 k4_b2_1 g4_b2_1 k4_b2_2 g4_b2_2 k4_b2_3 g4_b2_3 k4_b3_0 g4_b3_0 k4_b3_1 g4_b3_1 k4_b3_2 g4_b3_2 k4_b3_3 g4_b3_3 k4_g5_0 g4_g5_0 k4_g5_1 g4_g5_1 k4_g5_2 g4_g5_2 k4_g5_3 g4_g5_3 k4_g6_0 g4_g6_0 k4_g6_1 g4_g6_1 k4_g6_2 g4_g6_2 k4_g6_3 g4_g6_3 k4_g7_0 g4_g7_0 k4_g7_1 g4_g7_1 k4_g7_2 g4_g7_2 k4_g7_3 g4_g7_3 k4_g8_0 g4_g8_0 k4_g8_1 g4_g8_1 k4_g8_2 g4_g8_2 k4_g8_3 g4_g8_3 e4_0 B4 z4; intro f hf; clear hf; rintro w' ⟨h0, h1, h2, h3, h4, h5, h6, h7, h8, h9, h10, h11, h12, h13, h14, h15, h16, h17, h18, h19, h20, h21, h22, h23, h24, h25, h26, h27, h28, h29, h30, h31, h32, h33, h34, h35, h36, h37, h38, h39, h40, h41, h42, h43, h44, h45, h46, h47, h48⟩; go_simp
    refine obe_nil ?_
    rintro w5 ⟨h0, h1, h2, h3, h4, h5, h6, h7, h8, h9, h10, h11, h12, h13, h14, h15, h16, h17, h18, h19, h20, h21, h22, h23, h24, h25, h26, h27, h28, h29, h30, h31, h32, h33, h34, h35, h36, h37, h38, h39, h40, h41, h42, h43, h44, h45, h46, h47, h48⟩ hb5 hF
    (try simp only [List.nil_append, List.append_nil, List.cons_append] at hF)
    simp only [puts, putD, Act.put, List.setIfInBounds_toArray, List.set_cons_zero, List.set_cons_succ]
    have lg9 : w4.heap.size ≤ gg 6 := hF.1.1
    have ug9 : gg 6 < w5.heap.size := hF.1.2.1
    have pg9 : w5.heap[gg 6]? = some (.cells #[.int .u8 0, .int .u8 0, .int .u8 0, .int .u8 0] 31) := hF.1.2.2
    have ng9_g10 : ¬ gg 6 = gg 7 := hF.2.1 (7, .cells #[.int .u8 0, .int .u8 0, .int .u8 0, .int .u8 0] 31) (by simp)
    have lg10 : w4.heap.size ≤ gg 7 := hF.2.2.1.1
    have ug10 : gg 7 < w5.heap.size := hF.2.2.1.2.1
    have pg10 : w5.heap[gg 7]? = some (.cells #[.int .u8 0, .int .u8 0, .int .u8 0, .int .u8 0] 31) := hF.2.2.1.2.2
    clear hF
    obtain ⟨g9, eg9⟩ : ∃ x, gg 6 = x := ⟨_, rfl⟩
    rw [eg9] at lg9 ug9 pg9 ng9_g10 ⊢
    clear eg9
    obtain ⟨g10, eg10⟩ : ∃ x, gg 7 = x := ⟨_, rfl⟩
    rw [eg10] at lg10 ug10 pg10 ng9_g10 ⊢
    clear eg10
    clear gg
    have k5_b2_0 := bcs hb5 k4_b2_0
    have g5_b2_0 := bfs hb5 k4_b2_0 g4_b2_0
    have k5_b2_1 := bcs hb5 k4_b2_1
    have g5_b2_1 := bfs hb5 k4_b2_1 g4_b2_1
    have k5_b2_2 := bcs hb5 k4_b2_2
    have g5_b2_2 := bfs hb5 k4_b2_2 g4_b2_2
    have k5_b2_3 := bcs hb5 k4_b2_3
    have g5_b2_3 := bfs hb5 k4_b2_3 g4_b2_3
    have k5_b3_0 := bcs hb5 k4_b3_0
    have g5_b3_0 := bfs hb5 k4_b3_0 g4_b3_0
    have k5_b3_1 := bcs hb5 k4_b3_1
    have g5_b3_1 := bfs hb5 k4_b3_1 g4_b3_1
    have k5_b3_2 := bcs hb5 k4_b3_2
    have g5_b3_2 := bfs hb5 k4_b3_2 g4_b3_2
    have k5_b3_3 := bcs hb5 k4_b3_3
    have g5_b3_3 := bfs hb5 k4_b3_3 g4_b3_3
    have k5_g5_0 := bcs hb5 k4_g5_0
    have g5_g5_0 := bfs hb5 k4_g5_0 g4_g5_0
    have k5_g5_1 := bcs hb5 k4_g5_1
    have g5_g5_1 := bfs hb5 k4_g5_1 g4_g5_1
    have k5_g5_2 := bcs hb5 k4_g5_2
    have g5_g5_2 := bfs hb5 k4_g5_2 g4_g5_2
    have k5_g5_3 := bcs hb5 k4_g5_3
    have g5_g5_3 := bfs hb5 k4_g5_3 g4_g5_3
    have k5_g6_0 := bcs hb5 k4_g6_0
    have g5_g6_0 := bfs hb5 k4_g6_0 g4_g6_0
    have k5_g6_1 := bcs hb5 k4_g6_1
    have g5_g6_1 := bfs hb5 k4_g6_1 g4_g6_1
    have k5_g6_2 := bcs hb5 k4_g6_2
    have g5_g6_2 := bfs hb5 k4_g6_2 g4_g6_2
    have k5_g6_3 := bcs hb5 k4_g6_3
    have g5_g6_3 := bfs hb5 k4_g6_3 g4_g6_3
    have k5_g7_0 := bcs hb5 k4_g7_0
    have g5_g7_0 := bfs hb5 k4_g7_0 g4_g7_0
    have k5_g7_1 := bcs hb5 k4_g7_1
    have g5_g7_1 := bfs hb5 k4_g7_1 g4_g7_1
    have k5_g7_2 := bcs hb5 k4_g7_2
    have g5_g7_2 := bfs hb5 k4_g7_2 g4_g7_2
    have k5_g7_3 := bcs hb5 k4_g7_3
    have g5_g7_3 := bfs hb5 k4_g7_3 g4_g7_3
    have k5_g8_0 := bcs hb5 k4_g8_0
    have g5_g8_0 := bfs hb5 k4_g8_0 g4_g8_0
    have k5_g8_1 := bcs hb5 k4_g8_1
    have g5_g8_1 := bfs hb5 k4_g8_1 g4_g8_1
    have k5_g8_2 := bcs hb5 k4_g8_2
    have g5_g8_2 := bfs hb5 k4_g8_2 g4_g8_2
    have k5_g8_3 := bcs hb5 k4_g8_3
    have g5_g8_3 := bfs hb5 k4_g8_3 g4_g8_3
    clear h0 h1 h2 h3 h4 h5 h6 h7 h8 h9 h10 h11 h12 h13 h14 h15 h16 h17 h18 h19 h20 h21 h22 h23 h24 h25 h26 h27 h28 h29 h30 h31 h32 h33 h34 h35 h36 h37 h38 h39 h40 h41 h42 h43 h44 h45 h46 h47 h48
    have B5 := bel_step B4 hb5
    have z5 := Nat.le_trans z4 hb5.size
    have e5_0 := Nm.below hN B5
    have mg9 : w.heap.size ≤ g9 := by omega
    have ng9_b2 : ¬ g9 = w.heap.size := by omega
    have nb2_g9 : ¬ w.heap.size = g9 := by omega
    have ng9_b3 : ¬ g9 = w.heap.size + 1 := by omega
    have nb3_g9 : ¬ w.heap.size + 1 = g9 := by omega
    have tg5 : g5 < w4.heap.size := qlt k4_g5_0
    have ng9_g5 : ¬ g9 = g5 := by omega
    have ng5_g9 : ¬ g5 = g9 := by omega
    have tg6 : g6 < w4.heap.size := qlt k4_g6_0
    have ng9_g6 : ¬ g9 = g6 := by omega
    have ng6_g9 : ¬ g6 = g9 := by omega
    have tg7 : g7 < w4.heap.size := qlt k4_g7_0
    have ng9_g7 : ¬ g9 = g7 := by omega
    have ng7_g9 : ¬ g7 = g9 := by omega
    have tg8 : g8 < w4.heap.size := qlt k4_g8_0
    have ng9_g8 : ¬ g9 = g8 := by omega
    have ng8_g9 : ¬ g8 = g9 := by omega
    have k5_g9_0 : w5.cell? ⟨g9, 0, none⟩ = some (.int .u8 0) := cob pg9 0 rfl
    have g5_g9_0 : w5.frozen? ⟨g9, 0, none⟩ = false := fob pg9 0
    have k5_g9_1 : w5.cell? ⟨g9, 1, none⟩ = some (.int .u8 0) := cob pg9 1 rfl
    have g5_g9_1 : w5.frozen? ⟨g9, 1, none⟩ = false := fob pg9 1
    have k5_g9_2 : w5.cell? ⟨g9, 2, none⟩ = some (.int .u8 0) := cob pg9 2 rfl
    have g5_g9_2 : w5.frozen? ⟨g9, 2, none⟩ = false := fob pg9 2
    have k5_g9_3 : w5.cell? ⟨g9, 3, none⟩ = some (.int .u8 0) := cob pg9 3 rfl
    have g5_g9_3 : w5.frozen? ⟨g9, 3, none⟩ = false := fob pg9 3
    have mg10 : w.heap.size ≤ g10 := by omega
    have ng10_b2 : ¬ g10 = w.heap.size := by omega
    have nb2_g10 : ¬ w.heap.size = g10 := by omega
    have ng10_b3 : ¬ g10 = w.heap.size + 1 := by omega
    have nb3_g10 : ¬ w.heap.size + 1 = g10 := by omega
    have tg5 : g5 < w4.heap.size := qlt k4_g5_0
    have ng10_g5 : ¬ g10 = g5 := by omega
    have ng5_g10 : ¬ g5 = g10 := by omega
    have tg6 : g6 < w4.heap.size := qlt k4_g6_0
    have ng10_g6 : ¬ g10 = g6 := by omega
    have ng6_g10 : ¬ g6 = g10 := by omega
    have tg7 : g7 < w4.heap.size := qlt k4_g7_0
    have ng10_g7 : ¬ g10 = g7 := by omega
    have ng7_g10 : ¬ g7 = g10 := by omega
    have tg8 : g8 < w4.heap.size := qlt k4_g8_0
    have ng10_g8 : ¬ g10 = g8 := by omega
    have ng8_g10 : ¬ g8 = g10 := by omega
    have k5_g10_0 : w5.cell? ⟨g10, 0, none⟩ = some (.int .u8 0) := cob pg10 0 rfl
    have g5_g10_0 : w5.frozen? ⟨g10, 0, none⟩ = false := fob pg10 0
    have k5_g10_1 : w5.cell? ⟨g10, 1, none⟩ = some (.int .u8 0) := cob pg10 1 rfl
    have g5_g10_1 : w5.frozen? ⟨g10, 1, none⟩ = false := fob pg10 1
    have k5_g10_2 : w5.cell? ⟨g10, 2, none⟩ = some (.int .u8 0) := cob pg10 2 rfl
    have g5_g10_2 : w5.frozen? ⟨g10, 2, none⟩ = false := fob pg10 2
    have k5_g10_3 : w5.cell? ⟨g10, 3, none⟩ = some (.int .u8 0) := cob pg10 3 rfl
    have g5_g10_3 : w5.frozen? ⟨g10, 3, none⟩ = false := fob pg10 3
    have ng10_g9 : ¬ g10 = g9 := fun h => ng9_g10 h.symm
    clear lg9 ug9 pg9
    clear lg10 ug10 pg10
    clear hb5
    (try clear B4)
    (try clear z4)
    (try clear k4_b2_0)
    (try clear g4_b2_0)
    (try clear k4_b2_1)
    (try clear g4_b2_1)
    (try clear k4_b2_2)
    (try clear g4_b2_2)
    (try clear k4_b2_3)
    (try clear g4_b2_3)
    (try clear k4_b3_0)
    (try clear g4_b3_0)
    (try clear k4_b3_1)
    (try clear g4_b3_1)
    (try clear k4_b3_2)
    (try clear g4_b3_2)
    (try clear k4_b3_3)
    (try clear g4_b3_3)
    (try clear k4_g5_0)
    (try clear g4_g5_0)
    (try clear k4_g5_1)
    (try clear g4_g5_1)
    (try clear k4_g5_2)
    (try clear g4_g5_2)
    (try clear k4_g5_3)
    (try clear g4_g5_3)
    (try clear k4_g6_0)
    (try clear g4_g6_0)
    (try clear k4_g6_1)
    (try clear g4_g6_1)
    (try clear k4_g6_2)
    (try clear g4_g6_2)
    (try clear k4_g6_3)
    (try clear g4_g6_3)
    (try clear k4_g7_0)
    (try clear g4_g7_0)
    (try clear k4_g7_1)
    (try clear g4_g7_1)
    (try clear k4_g7_2)
    (try clear g4_g7_2)
    (try clear k4_g7_3)
    (try clear g4_g7_3)
    (try clear k4_g8_0)
    (try clear g4_g8_0)
    (try clear k4_g8_1)
    (try clear g4_g8_1)
    (try clear k4_g8_2)
    (try clear g4_g8_2)
    (try clear k4_g8_3)
    (try clear g4_g8_3)
    (try clear e4_0)
    (try clear q4_b2)
    (try clear x4_b2)
    (try clear y4_b2)
    (try clear q4_b3)
    (try clear x4_b3)
    (try clear y4_b3)
    (try clear q4_g5)
    (try clear x4_g5)
    (try clear y4_g5)
    (try clear q4_g6)
    (try clear x4_g6)
    (try clear y4_g6)
    (try clear q4_g7)
    (try clear x4_g7)
    (try clear y4_g7)
    (try clear q4_g8)
    (try clear x4_g8)
    (try clear y4_g8)
    have q5_b2 : w.heap.size < w5.heap.size := qlt k5_b2_0
    have x5_b2 : ¬ w.heap.size = w5.heap.size := qne k5_b2_0
    have y5_b2 : ¬ w5.heap.size = w.heap.size := fun h => qne k5_b2_0 h.symm
    have q5_b3 : w.heap.size + 1 < w5.heap.size := qlt k5_b3_0
    have x5_b3 : ¬ w.heap.size + 1 = w5.heap.size := qne k5_b3_0
    have y5_b3 : ¬ w5.heap.size = w.heap.size + 1 := fun h => qne k5_b3_0 h.symm
    have q5_g5 : g5 < w5.heap.size := qlt k5_g5_0
    have x5_g5 : ¬ g5 = w5.heap.size := qne k5_g5_0
    have y5_g5 : ¬ w5.heap.size = g5 := fun h => qne k5_g5_0 h.symm
    have q5_g6 : g6 < w5.heap.size := qlt k5_g6_0
    have x5_g6 : ¬ g6 = w5.heap.size := qne k5_g6_0
    have y5_g6 : ¬ w5.heap.size = g6 := fun h => qne k5_g6_0 h.symm
    have q5_g7 : g7 < w5.heap.size := qlt k5_g7_0
    have x5_g7 : ¬ g7 = w5.heap.size := qne k5_g7_0
    have y5_g7 : ¬ w5.heap.size = g7 := fun h => qne k5_g7_0 h.symm
    have q5_g8 : g8 < w5.heap.size := qlt k5_g8_0
    have x5_g8 : ¬ g8 = w5.heap.size := qne k5_g8_0
    have y5_g8 : ¬ w5.heap.size = g8 := fun h => qne k5_g8_0 h.symm
    have q5_g9 : g9 < w5.heap.size := qlt k5_g9_0
    have x5_g9 : ¬ g9 = w5.heap.size := qne k5_g9_0
    have y5_g9 : ¬ w5.heap.size = g9 := fun h => qne k5_g9_0 h.symm
    have q5_g10 : g10 < w5.heap.size := qlt k5_g10_0
    have x5_g10 : ¬ g10 = w5.heap.size := qne k5_g10_0
    have y5_g10 : ¬ w5.heap.size = g10 := fun h => qne k5_g10_0 h.symm
    go_wp2
    refine wp_region_env (fun w' => w'.cell? ⟨w.heap.size, 0, none⟩ = some (.int .u8 r) ∧ w'.frozen? ⟨w.heap.size, 0, none⟩ = false ∧ w'.cell? ⟨w.heap.size, 1, none⟩ = some (.int .u8 g) ∧ w'.frozen? ⟨w.heap.size, 1, none⟩ = false ∧ w'.cell? ⟨w.heap.size, 2, none⟩ = some (.int .u8 b) ∧ w'.frozen? ⟨w.heap.size, 2, none⟩ = false ∧ w'.cell? ⟨w.heap.size, 3, none⟩ = some (.int .u8 a) ∧ w'.frozen? ⟨w.heap.size, 3, none⟩ = false ∧ w'.cell? ⟨w.heap.size + 1, 0, none⟩ = some (.int .u8 s) ∧ w'.frozen? ⟨w.heap.size + 1, 0, none⟩ = false ∧ w'.cell? ⟨w.heap.size + 1, 1, none⟩ = some (.int .u8 t) ∧ w'.frozen? ⟨w.heap.size + 1, 1, none⟩ = false ∧ w'.cell? ⟨w.heap.size + 1, 2, none⟩ = some (.int .u8 u) ∧ w'.frozen? ⟨w.heap.size + 1, 2, none⟩ = false ∧ w'.cell? ⟨w.heap.size + 1, 3, none⟩ = some (.int .u8 d) ∧ w'.frozen? ⟨w.heap.size + 1, 3, none⟩ = false ∧ w'.cell? ⟨g5, 0, none⟩ = some (.int .u8 r) ∧ w'.frozen? ⟨g5, 0, none⟩ = false ∧ w'.cell? ⟨g5, 1, none⟩ = some (.int .u8 g) ∧ w'.frozen? ⟨g5, 1, none⟩ = false ∧ w'.cell? ⟨g5, 2, none⟩ = some (.int .u8 b) ∧ w'.frozen? ⟨g5, 2, none⟩ = false ∧ w'.cell? ⟨g5, 3, none⟩ = some (.int .u8 255) ∧ w'.frozen? ⟨g5, 3, none⟩ = false ∧ w'.cell? ⟨g6, 0, none⟩ = some (.int .u8 s) ∧ w'.frozen? ⟨g6, 0, none⟩ = false ∧ w'.cell? ⟨g6, 1, none⟩ = some (.int .u8 t) ∧ w'.frozen? ⟨g6, 1, none⟩ = false ∧ w'.cell? ⟨g6, 2, none⟩ = some (.int .u8 u) ∧ w'.frozen? ⟨g6, 2, none⟩ = false ∧ w'.cell? ⟨g6, 3, none⟩ = some (.int .u8 255) ∧ w'.frozen? ⟨g6, 3, none⟩ = false ∧ w'.cell? ⟨g7, 0, none⟩ = some (.int .u8 hq0) ∧ w'.frozen? ⟨g7, 0, none⟩ = false ∧ w'.cell? ⟨g7, 1, none⟩ = some (.int .u8 hq1) ∧ w'.frozen? ⟨g7, 1, none⟩ = false ∧ w'.cell? ⟨g7, 2, none⟩ = some (.int .u8 hq2) ∧ w'.frozen? ⟨g7, 2, none⟩ = false ∧ w'.cell? ⟨g7, 3, none⟩ = some (.int .u8 255) ∧ w'.frozen? ⟨g7, 3, none⟩ = false ∧ w'.cell? ⟨g8, 0, none⟩ = some (.int .u8 vq0) ∧ w'.frozen? ⟨g8, 0, none⟩ = false ∧ w'.cell? ⟨g8, 1, none⟩ = some (.int .u8 vq1) ∧ w'.frozen? ⟨g8, 1, none⟩ = false ∧ w'.cell? ⟨g8, 2, none⟩ = some (.int .u8 vq2) ∧ w'.frozen? ⟨g8, 2, none⟩ = false ∧ w'.cell? ⟨g8, 3, none⟩ = some (.int .u8 255) ∧ w'.frozen? ⟨g8, 3, none⟩ = false ∧ w'.cell? ⟨g9, 0, none⟩ = some (.int .u8 jq0) ∧ w'.frozen? ⟨g9, 0, none⟩ = false ∧ w'.cell? ⟨g9, 1, none⟩ = some (.int .u8 jq1) ∧ w'.frozen? ⟨g9, 1, none⟩ = false ∧ w'.cell? ⟨g9, 2, none⟩ = some (.int .u8 jq2) ∧ w'.frozen? ⟨g9, 2, none⟩ = false ∧ w'.cell? ⟨g9, 3, none⟩ = some (.int .u8 255) ∧ w'.frozen? ⟨g9, 3, none⟩ = false ∧ w'.cell? ⟨g10, 0, none⟩ = some (.int .u8 kq0) ∧ w'.frozen? ⟨g10, 0, none⟩ = false ∧ w'.cell? ⟨g10, 1, none⟩ = some (.int .u8 kq1) ∧ w'.frozen? ⟨g10, 1, none⟩ = false ∧ w'.cell? ⟨g10, 2, none⟩ = some (.int .u8 kq2) ∧ w'.frozen? ⟨g10, 2, none⟩ = false ∧ w'.cell? ⟨g10, 3, none⟩ = some (.int .u8 255) ∧ w'.frozen? ⟨g10, 3, none⟩ = false ∧ Nm w') (fun W => W.cell? ⟨w.heap.size, 0, none⟩ = some (.int .u8 r) ∧ W.frozen? ⟨w.heap.size, 0, none⟩ = false ∧ W.cell? ⟨w.heap.size, 1, none⟩ = some (.int .u8 g) ∧ W.frozen? ⟨w.heap.size, 1, none⟩ = false ∧ W.cell? ⟨w.heap.size, 2, none⟩ = some (.int .u8 b) ∧ W.frozen? ⟨w.heap.size, 2, none⟩ = false ∧ W.cell? ⟨w.heap.size, 3, none⟩ = some (.int .u8 a) ∧ W.frozen? ⟨w.heap.size, 3, none⟩ = false ∧ W.cell? ⟨w.heap.size + 1, 0, none⟩ = some (.int .u8 s) ∧ W.frozen? ⟨w.heap.size + 1, 0, none⟩ = false ∧ W.cell? ⟨w.heap.size + 1, 1, none⟩ = some (.int .u8 t) ∧ W.frozen? ⟨w.heap.size + 1, 1, none⟩ = false ∧ W.cell? ⟨w.heap.size + 1, 2, none⟩ = some (.int .u8 u) ∧ W.frozen? ⟨w.heap.size + 1, 2, none⟩ = false ∧ W.cell? ⟨w.heap.size + 1, 3, none⟩ = some (.int .u8 d) ∧ W.frozen? ⟨w.heap.size + 1, 3, none⟩ = false ∧ W.cell? ⟨g5, 0, none⟩ = some (.int .u8 r) ∧ W.frozen? ⟨g5, 0, none⟩ = false ∧ W.cell? ⟨g5, 1, none⟩ = some (.int .u8 g) ∧ W.frozen? ⟨g5, 1, none⟩ = false ∧ W.cell? ⟨g5, 2, none⟩ = some (.int .u8 b) ∧ W.frozen? ⟨g5, 2, none⟩ = false ∧ W.cell? ⟨g5, 3, none⟩ = some (.int .u8 255) ∧ W.frozen? ⟨g5, 3, none⟩ = false ∧ W.cell? ⟨g6, 0, none⟩ = some (.int .u8 s) ∧ W.frozen? ⟨g6, 0, none⟩ = false ∧ W.cell? ⟨g6, 1, none⟩ = some (.int .u8 t) ∧ W.frozen? ⟨g6, 1, none⟩ = false ∧ W.cell? ⟨g6, 2, none⟩ = some (.int .u8 u) ∧ W.frozen? ⟨g6, 2, none⟩ = false ∧ W.cell? ⟨g6, 3, none⟩ = some (.int .u8 255) ∧ W.frozen? ⟨g6, 3, none⟩ = false ∧ W.cell? ⟨g7, 0, none⟩ = some (.int .u8 hq0) ∧ W.frozen? ⟨g7, 0, none⟩ = false ∧ W.cell? ⟨g7, 1, none⟩ = some (.int .u8 hq1) ∧ W.frozen? ⟨g7, 1, none⟩ = false ∧ W.cell? ⟨g7, 2, none⟩ = some (.int .u8 hq2) ∧ W.frozen? ⟨g7, 2, none⟩ = false ∧ W.cell? ⟨g7, 3, none⟩ = some (.int .u8 255) ∧ W.frozen? ⟨g7, 3, none⟩ = false ∧ W.cell? ⟨g8, 0, none⟩ = some (.int .u8 vq0) ∧ W.frozen? ⟨g8, 0, none⟩ = false ∧ W.cell? ⟨g8, 1, none⟩ = some (.int .u8 vq1) ∧ W.frozen? ⟨g8, 1, none⟩ = false ∧ W.cell? ⟨g8, 2, none⟩ = some (.int .u8 vq2) ∧ W.frozen? ⟨g8, 2, none⟩ = false ∧ W.cell? ⟨g8, 3, none⟩ = some (.int .u8 255) ∧ W.frozen? ⟨g8, 3, none⟩ = false ∧ W.cell? ⟨g9, 0, none⟩ = some (.int .u8 jq0) ∧ W.frozen? ⟨g9, 0, none⟩ = false ∧ W.cell? ⟨g9, 1, none⟩ = some (.int .u8 jq1) ∧ W.frozen? ⟨g9, 1, none⟩ = false ∧ W.cell? ⟨g9, 2, none⟩ = some (.int .u8 jq2) ∧ W.frozen? ⟨g9, 2, none⟩ = false ∧ W.cell? ⟨g9, 3, none⟩ = some (.int .u8 255) ∧ W.frozen? ⟨g9, 3, none⟩ = false ∧ W.cell? ⟨g10, 0, none⟩ = some (.int .u8 kq0) ∧ W.frozen? ⟨g10, 0, none⟩ = false ∧ W.cell? ⟨g10, 1, none⟩ = some (.int .u8 kq1) ∧ W.frozen? ⟨g10, 1, none⟩ = false ∧ W.cell? ⟨g10, 2, none⟩ = some (.int .u8 kq2) ∧ W.frozen? ⟨g10, 2, none⟩ = false ∧ W.cell? ⟨g10, 3, none⟩ = some (.int .u8 255) ∧ W.frozen? ⟨g10, 3, none⟩ = false ∧ Nm W ∧ Below w.heap.size w W ∧ w.heap.size + 1 + 1 ≤ W.heap.size) 50 76 [.val (.pointer (some ⟨g7, 3, none⟩)), .val (.int .u8 255), .val (.bool true), .val (.bool true), .val (.pointer (some ⟨g8, 3, none⟩)), .val (.int .u8 255), .val (.bool true), .val (.bool true), .val (.bool true), .val (.pointer (some ⟨g9, 3, none⟩)), .val (.int .u8 255), .val (.bool true), .val (.bool true), .val (.bool true), .val (.pointer (some ⟨g10, 3, none⟩)), .val (.int .u8 255), .val (.bool true), .val (.bool true), .val (.bool true), .val (.agg #[.int .u8 hq0, .int .u8 hq1, .int .u8 hq2, .int .u8 255]), .call 27 #[.agg #[.int .u8 hq0, .int .u8 hq1, .int .u8 hq2, .int .u8 255]] (.int .i64 lh), .val (.agg #[.int .u8 s, .int .u8 t, .int .u8 u, .int .u8 255]), .call 27 #[.agg #[.int .u8 s, .int .u8 t, .int .u8 u, .int .u8 255]] (.int .i64 ly), .call 26 #[.int .i64 lh, .int .i64 ly] (.bool true), .val (.bool true), .val (.bool true), .val (.agg #[.int .u8 vq0, .int .u8 vq1, .int .u8 vq2, .int .u8 255]), .call 27 #[.agg #[.int .u8 vq0, .int .u8 vq1, .int .u8 vq2, .int .u8 255]] (.int .i64 lv), .val (.agg #[.int .u8 s, .int .u8 t, .int .u8 u, .int .u8 255]), .call 27 #[.agg #[.int .u8 s, .int .u8 t, .int .u8 u, .int .u8 255]] (.int .i64 ly), .call 26 #[.int .i64 lv, .int .i64 ly] (.bool true), .val (.bool true), .val (.bool true), .val (.agg #[.int .u8 jq0, .int .u8 jq1, .int .u8 jq2, .int .u8 255]), .call 27 #[.agg #[.int .u8 jq0, .int .u8 jq1, .int .u8 jq2, .int .u8 255]] (.int .i64 lj), .val (.agg #[.int .u8 s, .int .u8 t, .int .u8 u, .int .u8 255]), .call 27 #[.agg #[.int .u8 s, .int .u8 t, .int .u8 u, .int .u8 255]] (.int .i64 ly), .call 26 #[.int .i64 lj, .int .i64 ly] (.bool true), .val (.bool true), .val (.bool true), .val (.agg #[.int .u8 kq0, .int .u8 kq1, .int .u8 kq2, .int .u8 255]), .call 27 #[.agg #[.int .u8 kq0, .int .u8 kq1, .int .u8 kq2, .int .u8 255]] (.int .i64 lk), .val (.agg #[.int .u8 r, .int .u8 g, .int .u8 b, .int .u8 255]), .call 27 #[.agg #[.int .u8 r, .int .u8 g, .int .u8 b, .int .u8 255]] (.int .i64 lx), .call 26 #[.int .i64 lk, .int .i64 lx] (.bool true), .val (.bool true), .val (.bool true), .call 20 #[] (.bool true), .val (.bool true), .val (.bool true)] (by kernel_rfl) (by kernel_rfl) rfl (by kernel_rfl) (by rintro w1 w2 ⟨h0, h1, h2, h3, h4, h5, h6, h7, h8, h9, h10, h11, h12, h13, h14, h15, h16, h17, h18, h19, h20, h21, h22, h23, h24, h25, h26, h27, h28, h29, h30, h31, h32, h33, h34, h35, h36, h37, h38, h39, h40, h41, h42, h43, h44, h45, h46, h47, h48, h49, h50, h51, h52, h53, h54, h55, h56, h57, h58, h59, h60, h61, h62, h63, h64⟩ hb; exact ⟨bcs hb h0, bfs hb h0 h1, bcs hb h2, bfs hb h2 h3, bcs hb h4, bfs hb h4 h5, bcs hb h6, bfs hb h6 h7, bcs hb h8, bfs hb h8 h9, bcs hb h10, bfs hb h10 h11, bcs hb h12, bfs hb h12 h13, bcs hb h14, bfs hb h14 h15, bcs hb h16, bfs hb h16 h17, bcs hb h18, bfs hb h18 h19, bcs hb h20, bfs hb h20 h21, bcs hb h22, bfs hb h22 h23, bcs hb h24, bfs hb h24 h25, bcs hb h26, bfs hb h26 h27, bcs hb h28, bfs hb h28 h29, bcs hb h30, bfs hb h30 h31, bcs hb h32, bfs hb h32 h33, bcs hb h34, bfs hb h34 h35, bcs hb h36, bfs hb h36 h37, bcs hb h38, bfs hb h38 h39, bcs hb h40, bfs hb h40 h41, bcs hb h42, bfs hb h42 h43, bcs hb h44, bfs hb h44 h45, bcs hb h46, bfs hb h46 h47, bcs hb h48, bfs hb h48 h49, bcs hb h50, bfs hb h50 h51, bcs hb h52, bfs hb h52 h53, bcs hb h54, bfs hb h54 h55, bcs hb h56, bfs hb h56 h57, bcs hb h58, bfs hb h58 h59, bcs hb h60, bfs hb h60 h61, bcs hb h62, bfs hb h62 h63, Nm.below h64 hb⟩) ⟨by first | with_reducible assumption | go_simp, by first | with_reducible assumption | go_simp, by first | with_reducible assumption | go_simp, by first | with_reducible assumption | go_simp, by first | with_reducible assumption | go_simp, by first | with_reducible assumption | go_simp, by first | with_reducible assumption | go_simp, by first | with_reducible assumption | go_simp, by first | with_reducible assumption | go_simp, by first | with_reducible assumption | go_simp, by first | with_reducible assumption | go_simp, by first | with_reducible assumption | go_simp, by first | with_reducible assumption | go_simp, by first | with_reducible assumption | go_simp, by first | with_reducible assumption | go_simp, by first | with_reducible assumption | go_simp, by first | with_reducible assumption | go_simp, by first | with_reducible assumption | go_simp, by first | with_reducible assumption | go_simp, by first | with_reducible assumption | go_simp, by first | with_reducible assumption | go_simp, by first | with_reducible assumption | go_simp, by first | with_reducible assumption | go_simp, by first | with_reducible assumption | go_simp, by first | with_reducible assumption | go_simp, by first | with_reducible assumption | go_simp, by first | with_reducible assumption | go_simp, by first | with_reducible assumption | go_simp, by first | with_reducible assumption | go_simp, by first | with_reducible assumption | go_simp, by first | with_reducible assumption | go_simp, by first | with_reducible assumption | go_simp, by first | with_reducible assumption | go_simp, by first | with_reducible assumption | go_simp, by first | with_reducible assumption | go_simp, by first | with_reducible assumption | go_simp, by first | with_reducible assumption | go_simp, by first | with_reducible assumption | go_simp, by first | with_reducible assumption | go_simp, by first | with_reducible assumption | go_simp, by first | with_reducible assumption | go_simp, by first | with_reducible assumption | go_simp, by first | with_reducible assumption | go_simp, by first | with_reducible assumption | go_simp, by first | with_reducible assumption | go_simp, by first | with_reducible assumption | go_simp, by first | with_reducible assumption | go_simp, by first | with_reducible assumption | go_simp, by first | with_reducible assumption | go_simp, by first | with_reducible assumption | go_simp, by first | with_reducible assumption | go_simp, by first | with_reducible assumption | go_simp, by first | with_reducible assumption | go_simp, by first | with_reducible assumption | go_simp, by first | with_reducible assumption | go_simp, by first | with_reducible assumption | go_simp, by first | with_reducible assumption | go_simp, by first | with_reducible assumption | go_simp, by first | with_reducible assumption | go_simp, by first | with_reducible assumption | go_simp, by first | with_reducible assumption | go_simp, by first | with_reducible assumption | go_simp, by first | with_reducible assumption | go_simp, by first | with_reducible assumption | go_simp, Nm.below hN (by repeat (first | with_reducible exact Below.refl _ _ | with_reducible exact B5 | with_reducible apply below_drewN | with_reducible apply Below.drew | (with_reducible refine Below.alloc ?_ (by first | (simp; done) | (simp; omega) | omega) _) | (with_reducible refine Below.setCell ?_ (by first | (simp; done) | (simp; omega) | omega) _))), by repeat (first | with_reducible exact Below.refl _ _ | with_reducible exact B5 | with_reducible apply below_drewN | with_reducible apply Below.drew | (with_reducible refine Below.alloc ?_ (by first | (simp; done) | (simp; omega) | omega) _) | (with_reducible refine Below.setCell ?_ (by first | (simp; done) | (simp; omega) | omega) _)), by first | with_reducible assumption | (simp; done) | (simp; omega)⟩ ?_ ?_
    · rintro W ⟨k6_b2_0, g6_b2_0, k6_b2_1, g6_b2_1, k6_b2_2, g6_b2_2, k6_b2_3, g6_b2_3, k6_b3_0, g6_b3_0, k6_b3_1, g6_b3_1, k6_b3_2, g6_b3_2, k6_b3_3, g6_b3_3, k6_g5_0, g6_g5_0, k6_g5_1, g6_g5_1, k6_g5_2, g6_g5_2, k6_g5_3, g6_g5_3, k6_g6_0, g6_g6_0, k6_g6_1, g6_g6_1, k6_g6_2, g6_g6_2, k6_g6_3, g6_g6_3, k6_g7_0, g6_g7_0, k6_g7_1, g6_g7_1, k6_g7_2, g6_g7_2, k6_g7_3, g6_g7_3, k6_g8_0, g6_g8_0, k6_g8_1, g6_g8_1, k6_g8_2, g6_g8_2, k6_g8_3, g6_g8_3, k6_g9_0, g6_g9_0, k6_g9_1, g6_g9_1, k6_g9_2, g6_g9_2, k6_g9_3, g6_g9_3, k6_g10_0, g6_g10_0, k6_g10_1, g6_g10_1, k6_g10_2, g6_g10_2, k6_g10_3, g6_g10_3, e6_0, B6, z6⟩; exact ⟨k6_b2_0, g6_b2_0, k6_b2_1, g6_b2_1, k6_b2_2, g6_b2_2, k6_b2_3, g6_b2_3, k6_b3_0, g6_b3_0, k6_b3_1, g6_b3_1, k6_b3_2, g6_b3_2, k6_b3_3, g6_b3_3, k6_g5_0, g6_g5_0, k6_g5_1, g6_g5_1, k6_g5_2, g6_g5_2, k6_g5_3, g6_g5_3, k6_g6_0, g6_g6_0, k6_g6_1, g6_g6_1, k6_g6_2, g6_g6_2, k6_g6_3, g6_g6_3, k6_g7_0, g6_g7_0, k6_g7_1, g6_g7_1, k6_g7_2, g6_g7_2, k6_g7_3, g6_g7_3, k6_g8_0, g6_g8_0, k6_g8_1, g6_g8_1, k6_g8_2, g6_g8_2, k6_g8_3, g6_g8_3, k6_g9_0, g6_g9_0, k6_g9_1, g6_g9_1, k6_g9_2, g6_g9_2, k6_g9_3, g6_g9_3, k6_g10_0, g6_g10_0, k6_g10_1, g6_g10_1, k6_g10_2, g6_g10_2, k6_g10_3, g6_g10_3, e6_0⟩
    (try clear B5)
    (try clear z5)
    (try clear k5_b2_0)
    (try clear g5_b2_0)
    (try clear k5_b2_1)
    (try clear g5_b2_1)
    (try clear k5_b2_2)
    (try clear g5_b2_2)
    (try clear k5_b2_3)
    (try clear g5_b2_3)
    (try clear k5_b3_0)
    (try clear g5_b3_0)
    (try clear k5_b3_1)
    (try clear g5_b3_1)
    (try clear k5_b3_2)
    (try clear g5_b3_2)
    (try clear k5_b3_3)
    (try clear g5_b3_3)
    (try clear k5_g5_0)
    (try clear g5_g5_0)
    (try clear k5_g5_1)
    (try clear g5_g5_1)
    (try clear k5_g5_2)
    (try clear g5_g5_2)
    (try clear k5_g5_3)
    (try clear g5_g5_3)
    (try clear k5_g6_0)
    (try clear g5_g6_0)
    (try clear k5_g6_1)
    (try clear g5_g6_1)
    (try clear k5_g6_2)
    (try clear g5_g6_2)
    (try clear k5_g6_3)
    (try clear g5_g6_3)
    (try clear k5_g7_0)
    (try clear g5_g7_0)
    (try clear k5_g7_1)
    (try clear g5_g7_1)
    (try clear k5_g7_2)
    (try clear g5_g7_2)
    (try clear k5_g7_3)
    (try clear g5_g7_3)
    (try clear k5_g8_0)
    (try clear g5_g8_0)
    (try clear k5_g8_1)
    (try clear g5_g8_1)
    (try clear k5_g8_2)
    (try clear g5_g8_2)
    (try clear k5_g8_3)
    (try clear g5_g8_3)
    (try clear k5_g9_0)
    (try clear g5_g9_0)
    (try clear k5_g9_1)
    (try clear g5_g9_1)
    (try clear k5_g9_2)
    (try clear g5_g9_2)
    (try clear k5_g9_3)
    (try clear g5_g9_3)
    (try clear k5_g10_0)
    (try clear g5_g10_0)
    (try clear k5_g10_1)
    (try clear g5_g10_1)
    (try clear k5_g10_2)
    (try clear g5_g10_2)
    (try clear k5_g10_3)
    (try clear g5_g10_3)
    (try clear e5_0)
    (try clear q5_b2)
    (try clear x5_b2)
    (try clear y5_b2)
    (try clear q5_b3)
    (try clear x5_b3)
    (try clear y5_b3)
    (try clear q5_g5)
    (try clear x5_g5)
    (try clear y5_g5)
    (try clear q5_g6)
    (try clear x5_g6)
    (try clear y5_g6)
    (try clear q5_g7)
    (try clear x5_g7)
    (try clear y5_g7)
    (try clear q5_g8)
    (try clear x5_g8)
    (try clear y5_g8)
    (try clear q5_g9)
    (try clear x5_g9)
    (try clear y5_g9)
    (try clear q5_g10)
    (try clear x5_g10)
    (try clear y5_g10)
    rintro w6 ⟨k6_b2_0, g6_b2_0, k6_b2_1, g6_b2_1, k6_b2_2, g6_b2_2, k6_b2_3, g6_b2_3, k6_b3_0, g6_b3_0, k6_b3_1, g6_b3_1, k6_b3_2, g6_b3_2, k6_b3_3, g6_b3_3, k6_g5_0, g6_g5_0, k6_g5_1, g6_g5_1, k6_g5_2, g6_g5_2, k6_g5_3, g6_g5_3, k6_g6_0, g6_g6_0, k6_g6_1, g6_g6_1, k6_g6_2, g6_g6_2, k6_g6_3, g6_g6_3, k6_g7_0, g6_g7_0, k6_g7_1, g6_g7_1, k6_g7_2, g6_g7_2, k6_g7_3, g6_g7_3, k6_g8_0, g6_g8_0, k6_g8_1, g6_g8_1, k6_g8_2, g6_g8_2, k6_g8_3, g6_g8_3, k6_g9_0, g6_g9_0, k6_g9_1, g6_g9_1, k6_g9_2, g6_g9_2, k6_g9_3, g6_g9_3, k6_g10_0, g6_g10_0, k6_g10_1, g6_g10_1, k6_g10_2, g6_g10_2, k6_g10_3, g6_g10_3, e6_0, B6, z6⟩ gg
    simp only [List.take_succ_cons, List.take_zero, List.drop_succ_cons, List.drop_zero, List.cons_append, List.nil_append, List.append_nil]
    refine obe_val (by rfl) ?_ ?_
    · clear k6_b2_0 g6_b2_0 k6_b2_1 g6_b2_1 k6_b2_2 g6_b2_2 k6_b2_3 g6_b2_3 k6_b3_0 g6_b3_0 k6_b3_1 g6_b3_1 k6_b3_2 g6_b3_2 k6_b3_3 g6_b3_3 k6_g5_0 g6_g5_0 k6_g5_1 g6_g5_1 k6_g5_2 g6_g5_2 k6_g5_3 g6_g5_3 k6_g6_0 g6_g6_0 k6_g6_1 g6_g6_1 k6_g6_2 g6_g6_2 k6_g6_3 g6_g6_3 k6_g7_0 g6_g7_0 k6_g7_1 g6_g7_1 k6_g7_2 g6_g7_2 k6_g7_3 g6_g7_3 k6_g8_0 g6_g8_0 k6_g8_1 g6_g8_1 k6_g8_2 g6_g8_2 k6_g8_3 g6_g8_3 k6_g9_0 g6_g9_0 k6_g9_1 g6_g9_1 k6_g9_2 g6_g9_2 k6_g9_3 g6_g9_3 k6_g10_0 g6_g10_0 k6_g10_1 g6_g10_1 k6_g10_2 g6_g10_2 k6_g10_3 g6_g10_3 e6_0 B6 z6; intro f hf; have u7 : f 7 = (.pointer (some ⟨g7, 0, none⟩)) := (by rw [← hf]; rfl); clear hf; rintro w' ⟨h0, h1, h2, h3, h4, h5, h6, h7, h8, h9, h10, h11, h12, h13, h14, h15, h16, h17, h18, h19, h20, h21, h22, h23, h24, h25, h26, h27, h28, h29, h30, h31, h32, h33, h34, h35, h36, h37, h38, h39, h40, h41, h42, h43, h44, h45, h46, h47, h48, h49, h50, h51, h52, h53, h54, h55, h56, h57, h58, h59, h60, h61, h62, h63, h64⟩; go_simp; try exact IntWalk.i64_in _ (by omega)
    refine obe_val (by rfl) ?_ ?_
    · clear k6_b2_0 g6_b2_0 k6_b2_1 g6_b2_1 k6_b2_2 g6_b2_2 k6_b2_3 g6_b2_3 k6_b3_0 g6_b3_0 k6_b3_1 g6_b3_1 k6_b3_2 g6_b3_2 k6_b3_3 g6_b3_3 k6_g5_0 g6_g5_0 k6_g5_1 g6_g5_1 k6_g5_2 g6_g5_2 k6_g5_3 g6_g5_3 k6_g6_0 g6_g6_0 k6_g6_1 g6_g6_1 k6_g6_2 g6_g6_2 k6_g6_3 g6_g6_3 k6_g7_0 g6_g7_0 k6_g7_1 g6_g7_1 k6_g7_2 g6_g7_2 k6_g7_3 g6_g7_3 k6_g8_0 g6_g8_0 k6_g8_1 g6_g8_1 k6_g8_2 g6_g8_2 k6_g8_3 g6_g8_3 k6_g9_0 g6_g9_0 k6_g9_1 g6_g9_1 k6_g9_2 g6_g9_2 k6_g9_3 g6_g9_3 k6_g10_0 g6_g10_0 k6_g10_1 g6_g10_1 k6_g10_2 g6_g10_2 k6_g10_3 g6_g10_3 e6_0 B6 z6; intro f hf; have u27 : f 27 = (.pointer (some ⟨g7, 3, none⟩)) := (by rw [← hf]; rfl); clear hf; rintro w' ⟨h0, h1, h2, h3, h4, h5, h6, h7, h8, h9, h10, h11, h12, h13, h14, h15, h16, h17, h18, h19, h20, h21, h22, h23, h24, h25, h26, h27, h28, h29, h30, h31, h32, h33, h34, h35, h36, h37, h38, h39, h40, h41, h42, h43, h44, h45, h46, h47, h48, h49, h50, h51, h52, h53, h54, h55, h56, h57, h58, h59, h60, h61, h62, h63, h64⟩; go_simp; try exact IntWalk.i64_in _ (by omega)
    refine obe_val (by rfl) ?_ ?_
    · clear k6_b2_0 g6_b2_0 k6_b2_1 g6_b2_1 k6_b2_2 g6_b2_2 k6_b2_3 g6_b2_3 k6_b3_0 g6_b3_0 k6_b3_1 g6_b3_1 k6_b3_2 g6_b3_2 k6_b3_3 g6_b3_3 k6_g5_0 g6_g5_0 k6_g5_1 g6_g5_1 k6_g5_2 g6_g5_2 k6_g5_3 g6_g5_3 k6_g6_0 g6_g6_0 k6_g6_1 g6_g6_1 k6_g6_2 g6_g6_2 k6_g6_3 g6_g6_3 k6_g7_0 g6_g7_0 k6_g7_1 g6_g7_1 k6_g7_2 g6_g7_2 k6_g7_3 g6_g7_3 k6_g8_0 g6_g8_0 k6_g8_1 g6_g8_1 k6_g8_2 g6_g8_2 k6_g8_3 g6_g8_3 k6_g9_0 g6_g9_0 k6_g9_1 g6_g9_1 k6_g9_2 g6_g9_2 k6_g9_3 g6_g9_3 k6_g10_0 g6_g10_0 k6_g10_1 g6_g10_1 k6_g10_2 g6_g10_2 k6_g10_3 g6_g10_3 e6_0 B6 z6; intro f hf; have u28 : f 28 = (.int .u8 255) := (by rw [← hf]; rfl); clear hf; rintro w' ⟨h0, h1, h2, h3, h4, h5, h6, h7, h8, h9, h10, h11, h12, h13, h14, h15, h16, h17, h18, h19, h20, h21, h22, h23, h24, h25, h26, h27, h28, h29, h30, h31, h32, h33, h34, h35, h36, h37, h38, h39, h40, h41, h42, h43, h44, h45, h46, h47, h48, h49, h50, h51, h52, h53, h54, h55, h56, h57, h58, h59, h60, h61, h62, h63, h64⟩; go_simp; try exact IntWalk.i64_in _ (by omega)
    refine obe_val (by rfl) ?_ ?_
    · clear k6_b2_0 g6_b2_0 k6_b2_1 g6_b2_1 k6_b2_2 g6_b2_2 k6_b2_3 g6_b2_3 k6_b3_0 g6_b3_0 k6_b3_1 g6_b3_1 k6_b3_2 g6_b3_2 k6_b3_3 g6_b3_3 k6_g5_0 g6_g5_0 k6_g5_1 g6_g5_1 k6_g5_2 g6_g5_2 k6_g5_3 g6_g5_3 k6_g6_0 g6_g6_0 k6_g6_1 g6_g6_1 k6_g6_2 g6_g6_2 k6_g6_3 g6_g6_3 k6_g7_0 g6_g7_0 k6_g7_1 g6_g7_1 k6_g7_2 g6_g7_2 k6_g7_3 g6_g7_3 k6_g8_0 g6_g8_0 k6_g8_1 g6_g8_1 k6_g8_2 g6_g8_2 k6_g8_3 g6_g8_3 k6_g9_0 g6_g9_0 k6_g9_1 g6_g9_1 k6_g9_2 g6_g9_2 k6_g9_3 g6_g9_3 k6_g10_0 g6_g10_0 k6_g10_1 g6_g10_1 k6_g10_2 g6_g10_2 k6_g10_3 g6_g10_3 e6_0 B6 z6; intro f hf; have u29 : f 29 = (.bool true) := (by rw [← hf]; rfl); clear hf; rintro w' ⟨h0, h1, h2, h3, h4, h5, h6, h7, h8, h9, h10, h11, h12, h13, h14, h15, h16, h17, h18, h19, h20, h21, h22, h23, h24, h25, h26, h27, h28, h29, h30, h31, h32, h33, h34, h35, h36, h37, h38, h39, h40, h41, h42, h43, h44, h45, h46, h47, h48, h49, h50, h51, h52, h53, h54, h55, h56, h57, h58, h59, h60, h61, h62, h63, h64⟩; go_simp; try exact IntWalk.i64_in _ (by omega)
    refine obe_val (by rfl) ?_ ?_
    · clear k6_b2_0 g6_b2_0 k6_b2_1 g6_b2_1 k6_b2_2 g6_b2_2 k6_b2_3 g6_b2_3 k6_b3_0 g6_b3_0 k6_b3_1 g6_b3_1 k6_b3_2 g6_b3_2 k6_b3_3 g6_b3_3 k6_g5_0 g6_g5_0 k6_g5_1 g6_g5_1 k6_g5_2 g6_g5_2 k6_g5_3 g6_g5_3 k6_g6_0 g6_g6_0 k6_g6_1 g6_g6_1 k6_g6_2 g6_g6_2 k6_g6_3 g6_g6_3 k6_g7_0 g6_g7_0 k6_g7_1 g6_g7_1 k6_g7_2 g6_g7_2 k6_g7_3 g6_g7_3 k6_g8_0 g6_g8_0 k6_g8_1 g6_g8_1 k6_g8_2 g6_g8_2 k6_g8_3 g6_g8_3 k6_g9_0 g6_g9_0 k6_g9_1 g6_g9_1 k6_g9_2 g6_g9_2 k6_g9_3 g6_g9_3 k6_g10_0 g6_g10_0 k6_g10_1 g6_g10_1 k6_g10_2 g6_g10_2 k6_g10_3 g6_g10_3 e6_0 B6 z6; intro f hf; have u8 : f 8 = (.pointer (some ⟨g8, 0, none⟩)) := (by rw [← hf]; rfl); clear hf; rintro w' ⟨h0, h1, h2, h3, h4, h5, h6, h7, h8, h9, h10, h11, h12, h13, h14, h15, h16, h17, h18, h19, h20, h21, h22, h23, h24, h25, h26, h27, h28, h29, h30, h31, h32, h33, h34, h35, h36, h37, h38, h39, h40, h41, h42, h43, h44, h45, h46, h47, h48, h49, h50, h51, h52, h53, h54, h55, h56, h57, h58, h59, h60, h61, h62, h63, h64⟩; go_simp; try exact IntWalk.i64_in _ (by omega)
    refine obe_val (by rfl) ?_ ?_
    · clear k6_b2_0 g6_b2_0 k6_b2_1 g6_b2_1 k6_b2_2 g6_b2_2 k6_b2_3 g6_b2_3 k6_b3_0 g6_b3_0 k6_b3_1 g6_b3_1 k6_b3_2 g6_b3_2 k6_b3_3 g6_b3_3 k6_g5_0 g6_g5_0 k6_g5_1 g6_g5_1 k6_g5_2 g6_g5_2 k6_g5_3 g6_g5_3 k6_g6_0 g6_g6_0 k6_g6_1 g6_g6_1 k6_g6_2 g6_g6_2 k6_g6_3 g6_g6_3 k6_g7_0 g6_g7_0 k6_g7_1 g6_g7_1 k6_g7_2 g6_g7_2 k6_g7_3 g6_g7_3 k6_g8_0 g6_g8_0 k6_g8_1 g6_g8_1 k6_g8_2 g6_g8_2 k6_g8_3 g6_g8_3 k6_g9_0 g6_g9_0 k6_g9_1 g6_g9_1 k6_g9_2 g6_g9_2 k6_g9_3 g6_g9_3 k6_g10_0 g6_g10_0 k6_g10_1 g6_g10_1 k6_g10_2 g6_g10_2 k6_g10_3 g6_g10_3 e6_0 B6 z6; intro f hf; have u31 : f 31 = (.pointer (some ⟨g8, 3, none⟩)) := (by rw [← hf]; rfl); clear hf; rintro w' ⟨h0, h1, h2, h3, h4, h5, h6, h7, h8, h9, h10, h11, h12, h13, h14, h15, h16, h17, h18, h19, h20, h21, h22, h23, h24, h25, h26, h27, h28, h29, h30, h31, h32, h33, h34, h35, h36, h37, h38, h39, h40, h41, h42, h43, h44, h45, h46, h47, h48, h49, h50, h51, h52, h53, h54, h55, h56, h57, h58, h59, h60, h61, h62, h63, h64⟩; go_simp; try exact IntWalk.i64_in _ (by omega)
    refine obe_val (by rfl) ?_ ?_
    · clear k6_b2_0 g6_b2_0 k6_b2_1 g6_b2_1 k6_b2_2 g6_b2_2 k6_b2_3 g6_b2_3 k6_b3_0 g6_b3_0 k6_b3_1 g6_b3_1 k6_b3_2 g6_b3_2 k6_b3_3 g6_b3_3 k6_g5_0 g6_g5_0 k6_g5_1 g6_g5_1 k6_g5_2 g6_g5_2 k6_g5_3 g6_g5_3 k6_g6_0 g6_g6_0 k6_g6_1 g6_g6_1 k6_g6_2 g6_g6_2 k6_g6_3 g6_g6_3 k6_g7_0 g6_g7_0 k6_g7_1 g6_g7_1 k6_g7_2 g6_g7_2 k6_g7_3 g6_g7_3 k6_g8_0 g6_g8_0 k6_g8_1 g6_g8_1 k6_g8_2 g6_g8_2 k6_g8_3 g6_g8_3 k6_g9_0 g6_g9_0 k6_g9_1 g6_g9_1 k6_g9_2 g6_g9_2 k6_g9_3 g6_g9_3 k6_g10_0 g6_g10_0 k6_g10_1 g6_g10_1 k6_g10_2 g6_g10_2 k6_g10_3 g6_g10_3 e6_0 B6 z6; intro f hf; have u32 : f 32 = (.int .u8 255) := (by rw [← hf]; rfl); clear hf; rintro w' ⟨h0, h1, h2, h3, h4, h5, h6, h7, h8, h9, h10, h11, h12, h13, h14, h15, h16, h17, h18, h19, h20, h21, h22, h23, h24, h25, h26, h27, h28, h29, h30, h31, h32, h33, h34, h35, h36, h37, h38, h39, h40, h41, h42, h43, h44, h45, h46, h47, h48, h49, h50, h51, h52, h53, h54, h55, h56, h57, h58, h59, h60, h61, h62, h63, h64⟩; go_simp; try exact IntWalk.i64_in _ (by omega)
    refine obe_val (by rfl) ?_ ?_
    · clear k6_b2_0 g6_b2_0 k6_b2_1 g6_b2_1 k6_b2_2 g6_b2_2 k6_b2_3 g6_b2_3 k6_b3_0 g6_b3_0 k6_b3_1 g6_b3_1 k6_b3_2 g6_b3_2 k6_b3_3 g6_b3_3 k6_g5_0 g6_g5_0 k6_g5_1 g6_g5_1 k6_g5_2 g6_g5_2 k6_g5_3 g6_g5_3 k6_g6_0 g6_g6_0 k6_g6_1 g6_g6_1 k6_g6_2 g6_g6_2 k6_g6_3 g6_g6_3 k6_g7_0 g6_g7_0 k6_g7_1 g6_g7_1 k6_g7_2 g6_g7_2 k6_g7_3 g6_g7_3 k6_g8_0 g6_g8_0 k6_g8_1 g6_g8_1 k6_g8_2 g6_g8_2 k6_g8_3 g6_g8_3 k6_g9_0 g6_g9_0 k6_g9_1 g6_g9_1 k6_g9_2 g6_g9_2 k6_g9_3 g6_g9_3 k6_g10_0 g6_g10_0 k6_g10_1 g6_g10_1 k6_g10_2 g6_g10_2 k6_g10_3 g6_g10_3 e6_0 B6 z6; intro f hf; have u30 : f 30 = (.bool true) := (by rw [← hf]; rfl); have u33 : f 33 = (.bool true) := (by rw [← hf]; rfl); clear hf; rintro w' ⟨h0, h1, h2, h3, h4, h5, h6, h7, h8, h9, h10, h11, h12, h13, h14, h15, h16, h17, h18, h19, h20, h21, h22, h23, h24, h25, h26, h27, h28, h29, h30, h31, h32, h33, h34, h35, h36, h37, h38, h39, h40, h41, h42, h43, h44, h45, h46, h47, h48, h49, h50, h51, h52, h53, h54, h55, h56, h57, h58, h59, h60, h61, h62, h63, h64⟩; go_simp; try exact IntWalk.i64_in _ (by omega)
    refine obe_val (by rfl) ?_ ?_
    · clear k6_b2_0 g6_b2_0 k6_b2_1 g6_b2_1 k6_b2_2 g6_b2_2 k6_b2_3 g6_b2_3 k6_b3_0 g6_b3_0 k6_b3_1 g6_b3_1 k6_b3_2 g6_b3_2 k6_b3_3 g6_b3_3 k6_g5_0 g6_g5_0 k6_g5_1 g6_g5_1 k6_g5_2 g6_g5_2 k6_g5_3 g6_g5_3 k6_g6_0 g6_g6_0 k6_g6_1 g6_g6_1 k6_g6_2 g6_g6_2 k6_g6_3 g6_g6_3 k6_g7_0 g6_g7_0 k6_g7_1 g6_g7_1 k6_g7_2 g6_g7_2 k6_g7_3 g6_g7_3 k6_g8_0 g6_g8_0 k6_g8_1 g6_g8_1 k6_g8_2 g6_g8_2 k6_g8_3 g6_g8_3 k6_g9_0 g6_g9_0 k6_g9_1 g6_g9_1 k6_g9_2 g6_g9_2 k6_g9_3 g6_g9_3 k6_g10_0 g6_g10_0 k6_g10_1 g6_g10_1 k6_g10_2 g6_g10_2 k6_g10_3 g6_g10_3 e6_0 B6 z6; intro f hf; have u34 : f 34 = (.bool true) := (by rw [← hf]; rfl); clear hf; rintro w' ⟨h0, h1, h2, h3, h4, h5, h6, h7, h8, h9, h10, h11, h12, h13, h14, h15, h16, h17, h18, h19, h20, h21, h22, h23, h24, h25, h26, h27, h28, h29, h30, h31, h32, h33, h34, h35, h36, h37, h38, h39, h40, h41, h42, h43, h44, h45, h46, h47, h48, h49, h50, h51, h52, h53, h54, h55, h56, h57, h58, h59, h60, h61, h62, h63, h64⟩; go_simp; try exact IntWalk.i64_in _ (by omega)
    refine obe_val (by rfl) ?_ ?_
    · clear k6_b2_0 g6_b2_0 k6_b2_1 g6_b2_1 k6_b2_2 g6_b2_2 k6_b2_3 g6_b2_3 k6_b3_0 g6_b3_0 k6_b3_1 g6_b3_1 k6_b3_2 g6_b3_2 k6_b3_3 g6_b3_3 k6_g5_0 g6_g5_0 k6_g5_1 g6_g5_1 k6_g5_2 g6_g5_2 k6_g5_3 g6_g5_3 k6_g6_0 g6_g6_0 k6_g6_1 g6_g6_1 k6_g6_2 g6_g6_2 k6_g6_3 g6_g6_3 k6_g7_0 g6_g7_0 k6_g7_1 g6_g7_1 k6_g7_2 g6_g7_2 k6_g7_3 g6_g7_3 k6_g8_0 g6_g8_0 k6_g8_1 g6_g8_1 k6_g8_2 g6_g8_2 k6_g8_3 g6_g8_3 k6_g9_0 g6_g9_0 k6_g9_1 g6_g9_1 k6_g9_2 g6_g9_2 k6_g9_3 g6_g9_3 k6_g10_0 g6_g10_0 k6_g10_1 g6_g10_1 k6_g10_2 g6_g10_2 k6_g10_3 g6_g10_3 e6_0 B6 z6; intro f hf; have u9 : f 9 = (.pointer (some ⟨g9, 0, none⟩)) := (by rw [← hf]; rfl); clear hf; rintro w' ⟨h0, h1, h2, h3, h4, h5, h6, h7, h8, h9, h10, h11, h12, h13, h14, h15, h16, h17, h18, h19, h20, h21, h22, h23, h24, h25, h26, h27, h28, h29, h30, h31, h32, h33, h34, h35, h36, h37, h38, h39, h40, h41, h42, h43, h44, h45, h46, h47, h48, h49, h50, h51, h52, h53, h54, h55, h56, h57, h58, h59, h60, h61, h62, h63, h64⟩; go_simp; try exact IntWalk.i64_in _ (by omega)
    refine obe_val (by rfl) ?_ ?_
    · clear k6_b2_0 g6_b2_0 k6_b2_1 g6_b2_1 k6_b2_2 g6_b2_2 k6_b2_3 g6_b2_3 k6_b3_0 g6_b3_0 k6_b3_1 g6_b3_1 k6_b3_2 g6_b3_2 k6_b3_3 g6_b3_3 k6_g5_0 g6_g5_0 k6_g5_1 g6_g5_1 k6_g5_2 g6_g5_2 k6_g5_3 g6_g5_3 k6_g6_0 g6_g6_0 k6_g6_1 g6_g6_1 k6_g6_2 g6_g6_2 k6_g6_3 g6_g6_3 k6_g7_0 g6_g7_0 k6_g7_1 g6_g7_1 k6_g7_2 g6_g7_2 k6_g7_3 g6_g7_3 k6_g8_0 g6_g8_0 k6_g8_1 g6_g8_1 k6_g8_2 g6_g8_2 k6_g8_3 g6_g8_3 k6_g9_0 g6_g9_0 k6_g9_1 g6_g9_1 k6_g9_2 g6_g9_2 k6_g9_3 g6_g9_3 k6_g10_0 g6_g10_0 k6_g10_1 g6_g10_1 k6_g10_2 g6_g10_2 k6_g10_3 g6_g10_3 e6_0 B6 z6; intro f hf; have u36 : f 36 = (.pointer (some ⟨g9, 3, none⟩)) := (by rw [← hf]; rfl); clear hf; rintro w' ⟨h0, h1, h2, h3, h4, h5, h6, h7, h8, h9, h10, h11, h12, h13, h14, h15, h16, h17, h18, h19, h20, h21, h22, h23, h24, h25, h26, h27, h28, h29, h30, h31, h32, h33, h34, h35, h36, h37, h38, h39, h40, h41, h42, h43, h44, h45, h46, h47, h48, h49, h50, h51, h52, h53, h54, h55, h56, h57, h58, h59, h60, h61, h62, h63, h64⟩; go_simp; try exact IntWalk.i64_in _ (by omega)
    refine obe_val (by rfl) ?_ ?_
    · clear k6_b2_0 g6_b2_0 k6_b2_1 g6_b2_1 k6_b2_2 g6_b2_2 k6_b2_3 g6_b2_3 k6_b3_0 g6_b3_0 k6_b3_1 g6_b3_1 k6_b3_2 g6_b3_2 k6_b3_3 g6_b3_3 k6_g5_0 g6_g5_0 k6_g5_1 g6_g5_1 k6_g5_2 g6_g5_2 k6_g5_3 g6_g5_3 k6_g6_0 g6_g6_0 k6_g6_1 g6_g6_1 k6_g6_2 g6_g6_2 k6_g6_3 g6_g6_3 k6_g7_0 g6_g7_0 k6_g7_1 g6_g7_1 k6_g7_2 g6_g7_2 k6_g7_3 g6_g7_3 k6_g8_0 g6_g8_0 k6_g8_1 g6_g8_1 k6_g8_2 g6_g8_2 k6_g8_3 g6_g8_3 k6_g9_0 g6_g9_0 k6_g9_1 g6_g9_1 k6_g9_2 g6_g9_2 k6_g9_3 g6_g9_3 k6_g10_0 g6_g10_0 k6_g10_1 g6_g10_1 k6_g10_2 g6_g10_2 k6_g10_3 g6_g10_3 e6_0 B6 z6; intro f hf; have u37 : f 37 = (.int .u8 255) := (by rw [← hf]; rfl); clear hf; rintro w' ⟨h0, h1, h2, h3, h4, h5, h6, h7, h8, h9, h10, h11, h12, h13, h14, h15, h16, h17, h18, h19, h20, h21, h22, h23, h24, h25, h26, h27, h28, h29, h30, h31, h32, h33, h34, h35, h36, h37, h38, h39, h40, h41, h42, h43, h44, h45, h46, h47, h48, h49, h50, h51, h52, h53, h54, h55, h56, h57, h58, h59, h60, h61, h62, h63, h64⟩; go_simp; try exact IntWalk.i64_in _ (by omega)
    refine obe_val (by rfl) ?_ ?_
    · clear k6_b2_0 g6_b2_0 k6_b2_1 g6_b2_1 k6_b2_2 g6_b2_2 k6_b2_3 g6_b2_3 k6_b3_0 g6_b3_0 k6_b3_1 g6_b3_1 k6_b3_2 g6_b3_2 k6_b3_3 g6_b3_3 k6_g5_0 g6_g5_0 k6_g5_1 g6_g5_1 k6_g5_2 g6_g5_2 k6_g5_3 g6_g5_3 k6_g6_0 g6_g6_0 k6_g6_1 g6_g6_1 k6_g6_2 g6_g6_2 k6_g6_3 g6_g6_3 k6_g7_0 g6_g7_0 k6_g7_1 g6_g7_1 k6_g7_2 g6_g7_2 k6_g7_3 g6_g7_3 k6_g8_0 g6_g8_0 k6_g8_1 g6_g8_1 k6_g8_2 g6_g8_2 k6_g8_3 g6_g8_3 k6_g9_0 g6_g9_0 k6_g9_1 g6_g9_1 k6_g9_2 g6_g9_2 k6_g9_3 g6_g9_3 k6_g10_0 g6_g10_0 k6_g10_1 g6_g10_1 k6_g10_2 g6_g10_2 k6_g10_3 g6_g10_3 e6_0 B6 z6; intro f hf; have u35 : f 35 = (.bool true) := (by rw [← hf]; rfl); have u38 : f 38 = (.bool true) := (by rw [← hf]; rfl); clear hf; rintro w' ⟨h0, h1, h2, h3, h4, h5, h6, h7, h8, h9, h10, h11, h12, h13, h14, h15, h16, h17, h18, h19, h20, h21, h22, h23, h24, h25, h26, h27, h28, h29, h30, h31, h32, h33, h34, h35, h36, h37, h38, h39, h40, h41, h42, h43, h44, h45, h46, h47, h48, h49, h50, h51, h52, h53, h54, h55, h56, h57, h58, h59, h60, h61, h62, h63, h64⟩; go_simp; try exact IntWalk.i64_in _ (by omega)
    refine obe_val (by rfl) ?_ ?_
    · clear k6_b2_0 g6_b2_0 k6_b2_1 g6_b2_1 k6_b2_2 g6_b2_2 k6_b2_3 g6_b2_3 k6_b3_0 g6_b3_0 k6_b3_1 g6_b3_1 k6_b3_2 g6_b3_2 k6_b3_3 g6_b3_3 k6_g5_0 g6_g5_0 k6_g5_1 g6_g5_1 k6_g5_2 g6_g5_2 k6_g5_3 g6_g5_3 k6_g6_0 g6_g6_0 k6_g6_1 g6_g6_1 k6_g6_2 g6_g6_2 k6_g6_3 g6_g6_3 k6_g7_0 g6_g7_0 k6_g7_1 g6_g7_1 k6_g7_2 g6_g7_2 k6_g7_3 g6_g7_3 k6_g8_0 g6_g8_0 k6_g8_1 g6_g8_1 k6_g8_2 g6_g8_2 k6_g8_3 g6_g8_3 k6_g9_0 g6_g9_0 k6_g9_1 g6_g9_1 k6_g9_2 g6_g9_2 k6_g9_3 g6_g9_3 k6_g10_0 g6_g10_0 k6_g10_1 g6_g10_1 k6_g10_2 g6_g10_2 k6_g10_3 g6_g10_3 e6_0 B6 z6; intro f hf; have u39 : f 39 = (.bool true) := (by rw [← hf]; rfl); clear hf; rintro w' ⟨h0, h1, h2, h3, h4, h5, h6, h7, h8, h9, h10, h11, h12, h13, h14, h15, h16, h17, h18, h19, h20, h21, h22, h23, h24, h25, h26, h27, h28, h29, h30, h31, h32, h33, h34, h35, h36, h37, h38, h39, h40, h41, h42, h43, h44, h45, h46, h47, h48, h49, h50, h51, h52, h53, h54, h55, h56, h57, h58, h59, h60, h61, h62, h63, h64⟩; go_simp; try exact IntWalk.i64_in _ (by omega)
    refine obe_val (by rfl) ?_ ?_
    · clear k6_b2_0 g6_b2_0 k6_b2_1 g6_b2_1 k6_b2_2 g6_b2_2 k6_b2_3 g6_b2_3 k6_b3_0 g6_b3_0 k6_b3_1 g6_b3_1 k6_b3_2 g6_b3_2 k6_b3_3 g6_b3_3 k6_g5_0 g6_g5_0 k6_g5_1 g6_g5_1 k6_g5_2 g6_g5_2 k6_g5_3 g6_g5_3 k6_g6_0 g6_g6_0 k6_g6_1 g6_g6_1 k6_g6_2 g6_g6_2 k6_g6_3 g6_g6_3 k6_g7_0 g6_g7_0 k6_g7_1 g6_g7_1 k6_g7_2 g6_g7_2 k6_g7_3 g6_g7_3 k6_g8_0 g6_g8_0 k6_g8_1 g6_g8_1 k6_g8_2 g6_g8_2 k6_g8_3 g6_g8_3 k6_g9_0 g6_g9_0 k6_g9_1 g6_g9_1 k6_g9_2 g6_g9_2 k6_g9_3 g6_g9_3 k6_g10_0 g6_g10_0 k6_g10_1 g6_g10_1 k6_g10_2 g6_g10_2 k6_g10_3 g6_g10_3 e6_0 B6 z6; intro f hf; have u10 : f 10 = (.pointer (some ⟨g10, 0, none⟩)) := (by rw [← hf]; rfl); clear hf; rintro w' ⟨h0, h1, h2, h3, h4, h5, h6, h7, h8, h9, h10, h11, h12, h13, h14, h15, h16, h17, h18, h19, h20, h21, h22, h23, h24, h25, h26, h27, h28, h29, h30, h31, h32, h33, h34, h35, h36, h37, h38, h39, h40, h41, h42, h43, h44, h45, h46, h47, h48, h49, h50, h51, h52, h53, h54, h55, h56, h57, h58, h59, h60, h61, h62, h63, h64⟩; go_simp; try exact IntWalk.i64_in _ (by omega)
    refine obe_val (by rfl) ?_ ?_
    · clear k6_b2_0 g6_b2_0 k6_b2_1 g6_b2_1 k6_b2_2 g6_b2_2 k6_b2_3 g6_b2_3 k6_b3_0 g6_b3_0 k6_b3_1 g6_b3_1 k6_b3_2 g6_b3_2 k6_b3_3 g6_b3_3 k6_g5_0 g6_g5_0 k6_g5_1 g6_g5_1 k6_g5_2 g6_g5_2 k6_g5_3 g6_g5_3 k6_g6_0 g6_g6_0 k6_g6_1 g6_g6_1 k6_g6_2 g6_g6_2 k6_g6_3 g6_g6_3 k6_g7_0 g6_g7_0 k6_g7_1 g6_g7_1 k6_g7_2 g6_g7_2 k6_g7_3 g6_g7_3 k6_g8_0 g6_g8_0 k6_g8_1 g6_g8_1 k6_g8_2 g6_g8_2 k6_g8_3 g6_g8_3 k6_g9_0 g6_g9_0 k6_g9_1 g6_g9_1 k6_g9_2 g6_g9_2 k6_g9_3 g6_g9_3 k6_g10_0 g6_g10_0 k6_g10_1 g6_g10_1 k6_g10_2 g6_g10_2 k6_g10_3 g6_g10_3 e6_0 B6 z6; intro f hf; have u41 : f 41 = (.pointer (some ⟨g10, 3, none⟩)) := (by rw [← hf]; rfl); clear hf; rintro w' ⟨h0, h1, h2, h3, h4, h5, h6, h7, h8, h9, h10, h11, h12, h13, h14, h15, h16, h17, h18, h19, h20, h21, h22, h23, h24, h25, h26, h27, h28, h29, h30, h31, h32, h33, h34, h35, h36, h37, h38, h39, h40, h41, h42, h43, h44, h45, h46, h47, h48, h49, h50, h51, h52, h53, h54, h55, h56, h57, h58, h59, h60, h61, h62, h63, h64⟩; go_simp; try exact IntWalk.i64_in _ (by omega)
    refine obe_val (by rfl) ?_ ?_
    · clear k6_b2_0 g6_b2_0 k6_b2_1 g6_b2_1 k6_b2_2 g6_b2_2 k6_b2_3 g6_b2_3 k6_b3_0 g6_b3_0 k6_b3_1 g6_b3_1 k6_b3_2 g6_b3_2 k6_b3_3 g6_b3_3 k6_g5_0 g6_g5_0 k6_g5_1 g6_g5_1 k6_g5_2 g6_g5_2 k6_g5_3 g6_g5_3 k6_g6_0 g6_g6_0 k6_g6_1 g6_g6_1 k6_g6_2 g6_g6_2 k6_g6_3 g6_g6_3 k6_g7_0 g6_g7_0 k6_g7_1 g6_g7_1 k6_g7_2 g6_g7_2 k6_g7_3 g6_g7_3 k6_g8_0 g6_g8_0 k6_g8_1 g6_g8_1 k6_g8_2 g6_g8_2 k6_g8_3 g6_g8_3 k6_g9_0 g6_g9_0 k6_g9_1 g6_g9_1 k6_g9_2 g6_g9_2 k6_g9_3 g6_g9_3 k6_g10_0 g6_g10_0 k6_g10_1 g6_g10_1 k6_g10_2 g6_g10_2 k6_g10_3 g6_g10_3 e6_0 B6 z6; intro f hf; have u42 : f 42 = (.int .u8 255) := (by rw [← hf]; rfl); clear hf; rintro w' ⟨h0, h1, h2, h3, h4, h5, h6, h7, h8, h9, h10, h11, h12, h13, h14, h15, h16, h17, h18, h19, h20, h21, h22, h23, h24, h25, h26, h27, h28, h29, h30, h31, h32, h33, h34, h35, h36, h37, h38, h39, h40, h41, h42, h43, h44, h45, h46, h47, h48, h49, h50, h51, h52, h53, h54, h55, h56, h57, h58, h59, h60, h61, h62, h63, h64⟩; go_simp; try exact IntWalk.i64_in _ (by omega)
    refine obe_val (by rfl) ?_ ?_
    · clear k6_b2_0 g6_b2_0 k6_b2_1 g6_b2_1 k6_b2_2 g6_b2_2 k6_b2_3 g6_b2_3 k6_b3_0 g6_b3_0 k6_b3_1 g6_b3_1 k6_b3_2 g6_b3_2 k6_b3_3 g6_b3_3 k6_g5_0 g6_g5_0 k6_g5_1 g6_g5_1 k6_g5_2 g6_g5_2 k6_g5_3 g6_g5_3 k6_g6_0 g6_g6_0 k6_g6_1 g6_g6_1 k6_g6_2 g6_g6_2 k6_g6_3 g6_g6_3 k6_g7_0 g6_g7_0 k6_g7_1 g6_g7_1 k6_g7_2 g6_g7_2 k6_g7_3 g6_g7_3 k6_g8_0 g6_g8_0 k6_g8_1 g6_g8_1 k6_g8_2 g6_g8_2 k6_g8_3 g6_g8_3 k6_g9_0 g6_g9_0 k6_g9_1 g6_g9_1 k6_g9_2 g6_g9_2 k6_g9_3 g6_g9_3 k6_g10_0 g6_g10_0 k6_g10_1 g6_g10_1 k6_g10_2 g6_g10_2 k6_g10_3 g6_g10_3 e6_0 B6 z6; intro f hf; have u40 : f 40 = (.bool true) := (by rw [← hf]; rfl); have u43 : f 43 = (.bool true) := (by rw [← hf]; rfl); clear hf; rintro w' ⟨h0, h1, h2, h3, h4, h5, h6, h7, h8, h9, h10, h11, h12, h13, h14, h15, h16, h17, h18, h19, h20, h21, h22, h23, h24, h25, h26, h27, h28, h29, h30, h31, h32, h33, h34, h35, h36, h37, h38, h39, h40, h41, h42, h43, h44, h45, h46, h47, h48, h49, h50, h51, h52, h53, h54, h55, h56, h57, h58, h59, h60, h61, h62, h63, h64⟩; go_simp; try exact IntWalk.i64_in _ (by omega)
    refine obe_val (by rfl) ?_ ?_
    · clear k6_b2_0 g6_b2_0 k6_b2_1 g6_b2_1 k6_b2_2 g6_b2_2 k6_b2_3 g6_b2_3 k6_b3_0 g6_b3_0 k6_b3_1 g6_b3_1 k6_b3_2 g6_b3_2 k6_b3_3 g6_b3_3 k6_g5_0 g6_g5_0 k6_g5_1 g6_g5_1 k6_g5_2 g6_g5_2 k6_g5_3 g6_g5_3 k6_g6_0 g6_g6_0 k6_g6_1 g6_g6_1 k6_g6_2 g6_g6_2 k6_g6_3 g6_g6_3 k6_g7_0 g6_g7_0 k6_g7_1 g6_g7_1 k6_g7_2 g6_g7_2 k6_g7_3 g6_g7_3 k6_g8_0 g6_g8_0 k6_g8_1 g6_g8_1 k6_g8_2 g6_g8_2 k6_g8_3 g6_g8_3 k6_g9_0 g6_g9_0 k6_g9_1 g6_g9_1 k6_g9_2 g6_g9_2 k6_g9_3 g6_g9_3 k6_g10_0 g6_g10_0 k6_g10_1 g6_g10_1 k6_g10_2 g6_g10_2 k6_g10_3 g6_g10_3 e6_0 B6 z6; intro f hf; have u44 : f 44 = (.bool true) := (by rw [← hf]; rfl); clear hf; rintro w' ⟨h0, h1, h2, h3, h4, h5, h6, h7, h8, h9, h10, h11, h12, h13, h14, h15, h16, h17, h18, h19, h20, h21, h22, h23, h24, h25, h26, h27, h28, h29, h30, h31, h32, h33, h34, h35, h36, h37, h38, h39, h40, h41, h42, h43, h44, h45, h46, h47, h48, h49, h50, h51, h52, h53, h54, h55, h56, h57, h58, h59, h60, h61, h62, h63, h64⟩; go_simp; try exact IntWalk.i64_in _ (by omega)
    refine obe_val (by rfl) ?_ ?_
    · clear k6_b2_0 g6_b2_0 k6_b2_1 g6_b2_1 k6_b2_2 g6_b2_2 k6_b2_3 g6_b2_3 k6_b3_0 g6_b3_0 k6_b3_1 g6_b3_1 k6_b3_2 g6_b3_2 k6_b3_3 g6_b3_3 k6_g5_0 g6_g5_0 k6_g5_1 g6_g5_1 k6_g5_2 g6_g5_2 k6_g5_3 g6_g5_3 k6_g6_0 g6_g6_0 k6_g6_1 g6_g6_1 k6_g6_2 g6_g6_2 k6_g6_3 g6_g6_3 k6_g7_0 g6_g7_0 k6_g7_1 g6_g7_1 k6_g7_2 g6_g7_2 k6_g7_3 g6_g7_3 k6_g8_0 g6_g8_0 k6_g8_1 g6_g8_1 k6_g8_2 g6_g8_2 k6_g8_3 g6_g8_3 k6_g9_0 g6_g9_0 k6_g9_1 g6_g9_1 k6_g9_2 g6_g9_2 k6_g9_3 g6_g9_3 k6_g10_0 g6_g10_0 k6_g10_1 g6_g10_1 k6_g10_2 g6_g10_2 k6_g10_3 g6_g10_3 e6_0 B6 z6; intro f hf; have u7 : f 7 = (.pointer (some ⟨g7, 0, none⟩)) := (by rw [← hf]; rfl); clear hf; rintro w' ⟨h0, h1, h2, h3, h4, h5, h6, h7, h8, h9, h10, h11, h12, h13, h14, h15, h16, h17, h18, h19, h20, h21, h22, h23, h24, h25, h26, h27, h28, h29, h30, h31, h32, h33, h34, h35, h36, h37, h38, h39, h40, h41, h42, h43, h44, h45, h46, h47, h48, h49, h50, h51, h52, h53, h54, h55, h56, h57, h58, h59, h60, h61, h62, h63, h64⟩; go_simp; try exact IntWalk.i64_in _ (by omega)
    refine obe_call (by rfl) ?_ ?_ ?_
    · clear k6_b2_0 g6_b2_0 k6_b2_1 g6_b2_1 k6_b2_2 g6_b2_2 k6_b2_3 g6_b2_3 k6_b3_0 g6_b3_0 k6_b3_1 g6_b3_1 k6_b3_2 g6_b3_2 k6_b3_3 g6_b3_3 k6_g5_0 g6_g5_0 k6_g5_1 g6_g5_1 k6_g5_2 g6_g5_2 k6_g5_3 g6_g5_3 k6_g6_0 g6_g6_0 k6_g6_1 g6_g6_1 k6_g6_2 g6_g6_2 k6_g6_3 g6_g6_3 k6_g7_0 g6_g7_0 k6_g7_1 g6_g7_1 k6_g7_2 g6_g7_2 k6_g7_3 g6_g7_3 k6_g8_0 g6_g8_0 k6_g8_1 g6_g8_1 k6_g8_2 g6_g8_2 k6_g8_3 g6_g8_3 k6_g9_0 g6_g9_0 k6_g9_1 g6_g9_1 k6_g9_2 g6_g9_2 k6_g9_3 g6_g9_3 k6_g10_0 g6_g10_0 k6_g10_1 g6_g10_1 k6_g10_2 g6_g10_2 k6_g10_3 g6_g10_3 e6_0 B6 z6; intro f hf; have u46 : f 46 = (.agg #[.int .u8 hq0, .int .u8 hq1, .int .u8 hq2, .int .u8 255]) := (by rw [← hf]; rfl); clear hf; intro w' _; simp only [execOp, resolve, invoke, rhoF_tmp, rhoF_func, rhoF_const, u46, List.map_toArray, List.map_cons, List.map_nil]; go_simp
    · clear k6_b2_0 g6_b2_0 k6_b2_1 g6_b2_1 k6_b2_2 g6_b2_2 k6_b2_3 g6_b2_3 k6_b3_0 g6_b3_0 k6_b3_1 g6_b3_1 k6_b3_2 g6_b3_2 k6_b3_3 g6_b3_3 k6_g5_0 g6_g5_0 k6_g5_1 g6_g5_1 k6_g5_2 g6_g5_2 k6_g5_3 g6_g5_3 k6_g6_0 g6_g6_0 k6_g6_1 g6_g6_1 k6_g6_2 g6_g6_2 k6_g6_3 g6_g6_3 k6_g7_0 g6_g7_0 k6_g7_1 g6_g7_1 k6_g7_2 g6_g7_2 k6_g7_3 g6_g7_3 k6_g8_0 g6_g8_0 k6_g8_1 g6_g8_1 k6_g8_2 g6_g8_2 k6_g8_3 g6_g8_3 k6_g9_0 g6_g9_0 k6_g9_1 g6_g9_1 k6_g9_2 g6_g9_2 k6_g9_3 g6_g9_3 k6_g10_0 g6_g10_0 k6_g10_1 g6_g10_1 k6_g10_2 g6_g10_2 k6_g10_3 g6_g10_3 e6_0 B6 z6; rintro w' ⟨h0, h1, h2, h3, h4, h5, h6, h7, h8, h9, h10, h11, h12, h13, h14, h15, h16, h17, h18, h19, h20, h21, h22, h23, h24, h25, h26, h27, h28, h29, h30, h31, h32, h33, h34, h35, h36, h37, h38, h39, h40, h41, h42, h43, h44, h45, h46, h47, h48, h49, h50, h51, h52, h53, h54, h55, h56, h57, h58, h59, h60, h61, h62, h63, h64⟩; exact clh _
    refine obe_val (by rfl) ?_ ?_
    · clear k6_b2_0 g6_b2_0 k6_b2_1 g6_b2_1 k6_b2_2 g6_b2_2 k6_b2_3 g6_b2_3 k6_b3_0 g6_b3_0 k6_b3_1 g6_b3_1 k6_b3_2 g6_b3_2 k6_b3_3 g6_b3_3 k6_g5_0 g6_g5_0 k6_g5_1 g6_g5_1 k6_g5_2 g6_g5_2 k6_g5_3 g6_g5_3 k6_g6_0 g6_g6_0 k6_g6_1 g6_g6_1 k6_g6_2 g6_g6_2 k6_g6_3 g6_g6_3 k6_g7_0 g6_g7_0 k6_g7_1 g6_g7_1 k6_g7_2 g6_g7_2 k6_g7_3 g6_g7_3 k6_g8_0 g6_g8_0 k6_g8_1 g6_g8_1 k6_g8_2 g6_g8_2 k6_g8_3 g6_g8_3 k6_g9_0 g6_g9_0 k6_g9_1 g6_g9_1 k6_g9_2 g6_g9_2 k6_g9_3 g6_g9_3 k6_g10_0 g6_g10_0 k6_g10_1 g6_g10_1 k6_g10_2 g6_g10_2 k6_g10_3 g6_g10_3 e6_0 B6 z6; intro f hf; have u6 : f 6 = (.pointer (some ⟨g6, 0, none⟩)) := (by rw [← hf]; rfl); clear hf; rintro w' ⟨h0, h1, h2, h3, h4, h5, h6, h7, h8, h9, h10, h11, h12, h13, h14, h15, h16, h17, h18, h19, h20, h21, h22, h23, h24, h25, h26, h27, h28, h29, h30, h31, h32, h33, h34, h35, h36, h37, h38, h39, h40, h41, h42, h43, h44, h45, h46, h47, h48, h49, h50, h51, h52, h53, h54, h55, h56, h57, h58, h59, h60, h61, h62, h63, h64⟩; go_simp; try exact IntWalk.i64_in _ (by omega)
    refine obe_call (by rfl) ?_ ?_ ?_
    · clear k6_b2_0 g6_b2_0 k6_b2_1 g6_b2_1 k6_b2_2 g6_b2_2 k6_b2_3 g6_b2_3 k6_b3_0 g6_b3_0 k6_b3_1 g6_b3_1 k6_b3_2 g6_b3_2 k6_b3_3 g6_b3_3 k6_g5_0 g6_g5_0 k6_g5_1 g6_g5_1 k6_g5_2 g6_g5_2 k6_g5_3 g6_g5_3 k6_g6_0 g6_g6_0 k6_g6_1 g6_g6_1 k6_g6_2 g6_g6_2 k6_g6_3 g6_g6_3 k6_g7_0 g6_g7_0 k6_g7_1 g6_g7_1 k6_g7_2 g6_g7_2 k6_g7_3 g6_g7_3 k6_g8_0 g6_g8_0 k6_g8_1 g6_g8_1 k6_g8_2 g6_g8_2 k6_g8_3 g6_g8_3 k6_g9_0 g6_g9_0 k6_g9_1 g6_g9_1 k6_g9_2 g6_g9_2 k6_g9_3 g6_g9_3 k6_g10_0 g6_g10_0 k6_g10_1 g6_g10_1 k6_g10_2 g6_g10_2 k6_g10_3 g6_g10_3 e6_0 B6 z6; intro f hf; have u48 : f 48 = (.agg #[.int .u8 s, .int .u8 t, .int .u8 u, .int .u8 255]) := (by rw [← hf]; rfl); clear hf; intro w' _; simp only [execOp, resolve, invoke, rhoF_tmp, rhoF_func, rhoF_const, u48, List.map_toArray, List.map_cons, List.map_nil]; go_simp
    · clear k6_b2_0 g6_b2_0 k6_b2_1 g6_b2_1 k6_b2_2 g6_b2_2 k6_b2_3 g6_b2_3 k6_b3_0 g6_b3_0 k6_b3_1 g6_b3_1 k6_b3_2 g6_b3_2 k6_b3_3 g6_b3_3 k6_g5_0 g6_g5_0 k6_g5_1 g6_g5_1 k6_g5_2 g6_g5_2 k6_g5_3 g6_g5_3 k6_g6_0 g6_g6_0 k6_g6_1 g6_g6_1 k6_g6_2 g6_g6_2 k6_g6_3 g6_g6_3 k6_g7_0 g6_g7_0 k6_g7_1 g6_g7_1 k6_g7_2 g6_g7_2 k6_g7_3 g6_g7_3 k6_g8_0 g6_g8_0 k6_g8_1 g6_g8_1 k6_g8_2 g6_g8_2 k6_g8_3 g6_g8_3 k6_g9_0 g6_g9_0 k6_g9_1 g6_g9_1 k6_g9_2 g6_g9_2 k6_g9_3 g6_g9_3 k6_g10_0 g6_g10_0 k6_g10_1 g6_g10_1 k6_g10_2 g6_g10_2 k6_g10_3 g6_g10_3 e6_0 B6 z6; rintro w' ⟨h0, h1, h2, h3, h4, h5, h6, h7, h8, h9, h10, h11, h12, h13, h14, h15, h16, h17, h18, h19, h20, h21, h22, h23, h24, h25, h26, h27, h28, h29, h30, h31, h32, h33, h34, h35, h36, h37, h38, h39, h40, h41, h42, h43, h44, h45, h46, h47, h48, h49, h50, h51, h52, h53, h54, h55, h56, h57, h58, h59, h60, h61, h62, h63, h64⟩; exact cly _
    refine obe_call (by rfl) ?_ ?_ ?_
    · clear k6_b2_0 g6_b2_0 k6_b2_1 g6_b2_1 k6_b2_2 g6_b2_2 k6_b2_3 g6_b2_3 k6_b3_0 g6_b3_0 k6_b3_1 g6_b3_1 k6_b3_2 g6_b3_2 k6_b3_3 g6_b3_3 k6_g5_0 g6_g5_0 k6_g5_1 g6_g5_1 k6_g5_2 g6_g5_2 k6_g5_3 g6_g5_3 k6_g6_0 g6_g6_0 k6_g6_1 g6_g6_1 k6_g6_2 g6_g6_2 k6_g6_3 g6_g6_3 k6_g7_0 g6_g7_0 k6_g7_1 g6_g7_1 k6_g7_2 g6_g7_2 k6_g7_3 g6_g7_3 k6_g8_0 g6_g8_0 k6_g8_1 g6_g8_1 k6_g8_2 g6_g8_2 k6_g8_3 g6_g8_3 k6_g9_0 g6_g9_0 k6_g9_1 g6_g9_1 k6_g9_2 g6_g9_2 k6_g9_3 g6_g9_3 k6_g10_0 g6_g10_0 k6_g10_1 g6_g10_1 k6_g10_2 g6_g10_2 k6_g10_3 g6_g10_3 e6_0 B6 z6; intro f hf; have u47 : f 47 = (.int .i64 lh) := (by rw [← hf]; rfl); have u49 : f 49 = (.int .i64 ly) := (by rw [← hf]; rfl); clear hf; intro w' _; simp only [execOp, resolve, invoke, rhoF_tmp, rhoF_func, rhoF_const, u47, u49, List.map_toArray, List.map_cons, List.map_nil]; go_simp
    · clear k6_b2_0 g6_b2_0 k6_b2_1 g6_b2_1 k6_b2_2 g6_b2_2 k6_b2_3 g6_b2_3 k6_b3_0 g6_b3_0 k6_b3_1 g6_b3_1 k6_b3_2 g6_b3_2 k6_b3_3 g6_b3_3 k6_g5_0 g6_g5_0 k6_g5_1 g6_g5_1 k6_g5_2 g6_g5_2 k6_g5_3 g6_g5_3 k6_g6_0 g6_g6_0 k6_g6_1 g6_g6_1 k6_g6_2 g6_g6_2 k6_g6_3 g6_g6_3 k6_g7_0 g6_g7_0 k6_g7_1 g6_g7_1 k6_g7_2 g6_g7_2 k6_g7_3 g6_g7_3 k6_g8_0 g6_g8_0 k6_g8_1 g6_g8_1 k6_g8_2 g6_g8_2 k6_g8_3 g6_g8_3 k6_g9_0 g6_g9_0 k6_g9_1 g6_g9_1 k6_g9_2 g6_g9_2 k6_g9_3 g6_g9_3 k6_g10_0 g6_g10_0 k6_g10_1 g6_g10_1 k6_g10_2 g6_g10_2 k6_g10_3 g6_g10_3 e6_0 B6 z6; rintro w' ⟨h0, h1, h2, h3, h4, h5, h6, h7, h8, h9, h10, h11, h12, h13, h14, h15, h16, h17, h18, h19, h20, h21, h22, h23, h24, h25, h26, h27, h28, h29, h30, h31, h32, h33, h34, h35, h36, h37, h38, h39, h40, h41, h42, h43, h44, h45, h46, h47, h48, h49, h50, h51, h52, h53, h54, h55, h56, h57, h58, h59, h60, h61, h62, h63, h64⟩; exact (cnh _).mono (by rintro e w2 ⟨rfl, rfl⟩; exact ⟨rfl, Below.refl _ _⟩)
    refine obe_val (by rfl) ?_ ?_
    · clear k6_b2_0 g6_b2_0 k6_b2_1 g6_b2_1 k6_b2_2 g6_b2_2 k6_b2_3 g6_b2_3 k6_b3_0 g6_b3_0 k6_b3_1 g6_b3_1 k6_b3_2 g6_b3_2 k6_b3_3 g6_b3_3 k6_g5_0 g6_g5_0 k6_g5_1 g6_g5_1 k6_g5_2 g6_g5_2 k6_g5_3 g6_g5_3 k6_g6_0 g6_g6_0 k6_g6_1 g6_g6_1 k6_g6_2 g6_g6_2 k6_g6_3 g6_g6_3 k6_g7_0 g6_g7_0 k6_g7_1 g6_g7_1 k6_g7_2 g6_g7_2 k6_g7_3 g6_g7_3 k6_g8_0 g6_g8_0 k6_g8_1 g6_g8_1 k6_g8_2 g6_g8_2 k6_g8_3 g6_g8_3 k6_g9_0 g6_g9_0 k6_g9_1 g6_g9_1 k6_g9_2 g6_g9_2 k6_g9_3 g6_g9_3 k6_g10_0 g6_g10_0 k6_g10_1 g6_g10_1 k6_g10_2 g6_g10_2 k6_g10_3 g6_g10_3 e6_0 B6 z6; intro f hf; have u45 : f 45 = (.bool true) := (by rw [← hf]; rfl); have u50 : f 50 = (.bool true) := (by rw [← hf]; rfl); clear hf; rintro w' ⟨h0, h1, h2, h3, h4, h5, h6, h7, h8, h9, h10, h11, h12, h13, h14, h15, h16, h17, h18, h19, h20, h21, h22, h23, h24, h25, h26, h27, h28, h29, h30, h31, h32, h33, h34, h35, h36, h37, h38, h39, h40, h41, h42, h43, h44, h45, h46, h47, h48, h49, h50, h51, h52, h53, h54, h55, h56, h57, h58, h59, h60, h61, h62, h63, h64⟩; go_simp; try exact IntWalk.i64_in _ (by omega)
    refine obe_val (by rfl) ?_ ?_
    · clear k6_b2_0 g6_b2_0 k6_b2_1 g6_b2_1 k6_b2_2 g6_b2_2 k6_b2_3 g6_b2_3 k6_b3_0 g6_b3_0 k6_b3_1 g6_b3_1 k6_b3_2 g6_b3_2 k6_b3_3 g6_b3_3 k6_g5_0 g6_g5_0 k6_g5_1 g6_g5_1 k6_g5_2 g6_g5_2 k6_g5_3 g6_g5_3 k6_g6_0 g6_g6_0 k6_g6_1 g6_g6_1 k6_g6_2 g6_g6_2 k6_g6_3 g6_g6_3 k6_g7_0 g6_g7_0 k6_g7_1 g6_g7_1 k6_g7_2 g6_g7_2 k6_g7_3 g6_g7_3 k6_g8_0 g6_g8_0 k6_g8_1 g6_g8_1 k6_g8_2 g6_g8_2 k6_g8_3 g6_g8_3 k6_g9_0 g6_g9_0 k6_g9_1 g6_g9_1 k6_g9_2 g6_g9_2 k6_g9_3 g6_g9_3 k6_g10_0 g6_g10_0 k6_g10_1 g6_g10_1 k6_g10_2 g6_g10_2 k6_g10_3 g6_g10_3 e6_0 B6 z6; intro f hf; have u51 : f 51 = (.bool true) := (by rw [← hf]; rfl); clear hf; rintro w' ⟨h0, h1, h2, h3, h4, h5, h6, h7, h8, h9, h10, h11, h12, h13, h14, h15, h16, h17, h18, h19, h20, h21, h22, h23, h24, h25, h26, h27, h28, h29, h30, h31, h32, h33, h34, h35, h36, h37, h38, h39, h40, h41, h42, h43, h44, h45, h46, h47, h48, h49, h50, h51, h52, h53, h54, h55, h56, h57, h58, h59, h60, h61, h62, h63, h64⟩; go_simp; try exact IntWalk.i64_in _ (by omega)
    refine obe_val (by rfl) ?_ ?_
    · clear k6_b2_0 g6_b2_0 k6_b2_1 g6_b2_1 k6_b2_2 g6_b2_2 k6_b2_3 g6_b2_3 k6_b3_0 g6_b3_0 k6_b3_1 g6_b3_1 k6_b3_2 g6_b3_2 k6_b3_3 g6_b3_3 k6_g5_0 g6_g5_0 k6_g5_1 g6_g5_1 k6_g5_2 g6_g5_2 k6_g5_3 g6_g5_3 k6_g6_0 g6_g6_0 k6_g6_1 g6_g6_1 k6_g6_2 g6_g6_2 k6_g6_3 g6_g6_3 k6_g7_0 g6_g7_0 k6_g7_1 g6_g7_1 k6_g7_2 g6_g7_2 k6_g7_3 g6_g7_3 k6_g8_0 g6_g8_0 k6_g8_1 g6_g8_1 k6_g8_2 g6_g8_2 k6_g8_3 g6_g8_3 k6_g9_0 g6_g9_0 k6_g9_1 g6_g9_1 k6_g9_2 g6_g9_2 k6_g9_3 g6_g9_3 k6_g10_0 g6_g10_0 k6_g10_1 g6_g10_1 k6_g10_2 g6_g10_2 k6_g10_3 g6_g10_3 e6_0 B6 z6; intro f hf; have u8 : f 8 = (.pointer (some ⟨g8, 0, none⟩)) := (by rw [← hf]; rfl); clear hf; rintro w' ⟨h0, h1, h2, h3, h4, h5, h6, h7, h8, h9, h10, h11, h12, h13, h14, h15, h16, h17, h18, h19, h20, h21, h22, h23, h24, h25, h26, h27, h28, h29, h30, h31, h32, h33, h34, h35, h36, h37, h38, h39, h40, h41, h42, h43, h44, h45, h46, h47, h48, h49, h50, h51, h52, h53, h54, h55, h56, h57, h58, h59, h60, h61, h62, h63, h64⟩; go_simp; try exact IntWalk.i64_in _ (by omega)
    refine obe_call (by rfl) ?_ ?_ ?_
    · clear k6_b2_0 g6_b2_0 k6_b2_1 g6_b2_1 k6_b2_2 g6_b2_2 k6_b2_3 g6_b2_3 k6_b3_0 g6_b3_0 k6_b3_1 g6_b3_1 k6_b3_2 g6_b3_2 k6_b3_3 g6_b3_3 k6_g5_0 g6_g5_0 k6_g5_1 g6_g5_1 k6_g5_2 g6_g5_2 k6_g5_3 g6_g5_3 k6_g6_0 g6_g6_0 k6_g6_1 g6_g6_1 k6_g6_2 g6_g6_2 k6_g6_3 g6_g6_3 k6_g7_0 g6_g7_0 k6_g7_1 g6_g7_1 k6_g7_2 g6_g7_2 k6_g7_3 g6_g7_3 k6_g8_0 g6_g8_0 k6_g8_1 g6_g8_1 k6_g8_2 g6_g8_2 k6_g8_3 g6_g8_3 k6_g9_0 g6_g9_0 k6_g9_1 g6_g9_1 k6_g9_2 g6_g9_2 k6_g9_3 g6_g9_3 k6_g10_0 g6_g10_0 k6_g10_1 g6_g10_1 k6_g10_2 g6_g10_2 k6_g10_3 g6_g10_3 e6_0 B6 z6; intro f hf; have u53 : f 53 = (.agg #[.int .u8 vq0, .int .u8 vq1, .int .u8 vq2, .int .u8 255]) := (by rw [← hf]; rfl); clear hf; intro w' _; simp only [execOp, resolve, invoke, rhoF_tmp, rhoF_func, rhoF_const, u53, List.map_toArray, List.map_cons, List.map_nil]; go_simp
    · clear k6_b2_0 g6_b2_0 k6_b2_1 g6_b2_1 k6_b2_2 g6_b2_2 k6_b2_3 g6_b2_3 k6_b3_0 g6_b3_0 k6_b3_1 g6_b3_1 k6_b3_2 g6_b3_2 k6_b3_3 g6_b3_3 k6_g5_0 g6_g5_0 k6_g5_1 g6_g5_1 k6_g5_2 g6_g5_2 k6_g5_3 g6_g5_3 k6_g6_0 g6_g6_0 k6_g6_1 g6_g6_1 k6_g6_2 g6_g6_2 k6_g6_3 g6_g6_3 k6_g7_0 g6_g7_0 k6_g7_1 g6_g7_1 k6_g7_2 g6_g7_2 k6_g7_3 g6_g7_3 k6_g8_0 g6_g8_0 k6_g8_1 g6_g8_1 k6_g8_2 g6_g8_2 k6_g8_3 g6_g8_3 k6_g9_0 g6_g9_0 k6_g9_1 g6_g9_1 k6_g9_2 g6_g9_2 k6_g9_3 g6_g9_3 k6_g10_0 g6_g10_0 k6_g10_1 g6_g10_1 k6_g10_2 g6_g10_2 k6_g10_3 g6_g10_3 e6_0 B6 z6; rintro w' ⟨h0, h1, h2, h3, h4, h5, h6, h7, h8, h9, h10, h11, h12, h13, h14, h15, h16, h17, h18, h19, h20, h21, h22, h23, h24, h25, h26, h27, h28, h29, h30, h31, h32, h33, h34, h35, h36, h37, h38, h39, h40, h41, h42, h43, h44, h45, h46, h47, h48, h49, h50, h51, h52, h53, h54, h55, h56, h57, h58, h59, h60, h61, h62, h63, h64⟩; exact clv _
    refine obe_val (by rfl) ?_ ?_
    · clear k6_b2_0 g6_b2_0 k6_b2_1 g6_b2_1 k6_b2_2 g6_b2_2 k6_b2_3 g6_b2_3 k6_b3_0 g6_b3_0 k6_b3_1 g6_b3_1 k6_b3_2 g6_b3_2 k6_b3_3 g6_b3_3 k6_g5_0 g6_g5_0 k6_g5_1 g6_g5_1 k6_g5_2 g6_g5_2 k6_g5_3 g6_g5_3 k6_g6_0 g6_g6_0 k6_g6_1 g6_g6_1 k6_g6_2 g6_g6_2 k6_g6_3 g6_g6_3 k6_g7_0 g6_g7_0 k6_g7_1 g6_g7_1 k6_g7_2 g6_g7_2 k6_g7_3 g6_g7_3 k6_g8_0 g6_g8_0 k6_g8_1 g6_g8_1 k6_g8_2 g6_g8_2 k6_g8_3 g6_g8_3 k6_g9_0 g6_g9_0 k6_g9_1 g6_g9_1 k6_g9_2 g6_g9_2 k6_g9_3 g6_g9_3 k6_g10_0 g6_g10_0 k6_g10_1 g6_g10_1 k6_g10_2 g6_g10_2 k6_g10_3 g6_g10_3 e6_0 B6 z6; intro f hf; have u6 : f 6 = (.pointer (some ⟨g6, 0, none⟩)) := (by rw [← hf]; rfl); clear hf; rintro w' ⟨h0, h1, h2, h3, h4, h5, h6, h7, h8, h9, h10, h11, h12, h13, h14, h15, h16, h17, h18, h19, h20, h21, h22, h23, h24, h25, h26, h27, h28, h29, h30, h31, h32, h33, h34, h35, h36, h37, h38, h39, h40, h41, h42, h43, h44, h45, h46, h47, h48, h49, h50, h51, h52, h53, h54, h55, h56, h57, h58, h59, h60, h61, h62, h63, h64⟩; go_simp; try exact IntWalk.i64_in _ (by omega)
    refine obe_call (by rfl) ?_ ?_ ?_
    · clear k6_b2_0 g6_b2_0 k6_b2_1 g6_b2_1 k6_b2_2 g6_b2_2 k6_b2_3 g6_b2_3 k6_b3_0 g6_b3_0 k6_b3_1 g6_b3_1 k6_b3_2 g6_b3_2 k6_b3_3 g6_b3_3 k6_g5_0 g6_g5_0 k6_g5_1 g6_g5_1 k6_g5_2 g6_g5_2 k6_g5_3 g6_g5_3 k6_g6_0 g6_g6_0 k6_g6_1 g6_g6_1 k6_g6_2 g6_g6_2 k6_g6_3 g6_g6_3 k6_g7_0 g6_g7_0 k6_g7_1 g6_g7_1 k6_g7_2 g6_g7_2 k6_g7_3 g6_g7_3 k6_g8_0 g6_g8_0 k6_g8_1 g6_g8_1 k6_g8_2 g6_g8_2 k6_g8_3 g6_g8_3 k6_g9_0 g6_g9_0 k6_g9_1 g6_g9_1 k6_g9_2 g6_g9_2 k6_g9_3 g6_g9_3 k6_g10_0 g6_g10_0 k6_g10_1 g6_g10_1 k6_g10_2 g6_g10_2 k6_g10_3 g6_g10_3 e6_0 B6 z6; intro f hf; have u55 : f 55 = (.agg #[.int .u8 s, .int .u8 t, .int .u8 u, .int .u8 255]) := (by rw [← hf]; rfl); clear hf; intro w' _; simp only [execOp, resolve, invoke, rhoF_tmp, rhoF_func, rhoF_const, u55, List.map_toArray, List.map_cons, List.map_nil]; go_simp
    · clear k6_b2_0 g6_b2_0 k6_b2_1 g6_b2_1 k6_b2_2 g6_b2_2 k6_b2_3 g6_b2_3 k6_b3_0 g6_b3_0 k6_b3_1 g6_b3_1 k6_b3_2 g6_b3_2 k6_b3_3 g6_b3_3 k6_g5_0 g6_g5_0 k6_g5_1 g6_g5_1 k6_g5_2 g6_g5_2 k6_g5_3 g6_g5_3 k6_g6_0 g6_g6_0 k6_g6_1 g6_g6_1 k6_g6_2 g6_g6_2 k6_g6_3 g6_g6_3 k6_g7_0 g6_g7_0 k6_g7_1 g6_g7_1 k6_g7_2 g6_g7_2 k6_g7_3 g6_g7_3 k6_g8_0 g6_g8_0 k6_g8_1 g6_g8_1 k6_g8_2 g6_g8_2 k6_g8_3 g6_g8_3 k6_g9_0 g6_g9_0 k6_g9_1 g6_g9_1 k6_g9_2 g6_g9_2 k6_g9_3 g6_g9_3 k6_g10_0 g6_g10_0 k6_g10_1 g6_g10_1 k6_g10_2 g6_g10_2 k6_g10_3 g6_g10_3 e6_0 B6 z6; rintro w' ⟨h0, h1, h2, h3, h4, h5, h6, h7, h8, h9, h10, h11, h12, h13, h14, h15, h16, h17, h18, h19, h20, h21, h22, h23, h24, h25, h26, h27, h28, h29, h30, h31, h32, h33, h34, h35, h36, h37, h38, h39, h40, h41, h42, h43, h44, h45, h46, h47, h48, h49, h50, h51, h52, h53, h54, h55, h56, h57, h58, h59, h60, h61, h62, h63, h64⟩; exact cly _
    refine obe_call (by rfl) ?_ ?_ ?_
    · clear k6_b2_0 g6_b2_0 k6_b2_1 g6_b2_1 k6_b2_2 g6_b2_2 k6_b2_3 g6_b2_3 k6_b3_0 g6_b3_0 k6_b3_1 g6_b3_1 k6_b3_2 g6_b3_2 k6_b3_3 g6_b3_3 k6_g5_0 g6_g5_0 k6_g5_1 g6_g5_1 k6_g5_2 g6_g5_2 k6_g5_3 g6_g5_3 k6_g6_0 g6_g6_0 k6_g6_1 g6_g6_1 k6_g6_2 g6_g6_2 k6_g6_3 g6_g6_3 k6_g7_0 g6_g7_0 k6_g7_1 g6_g7_1 k6_g7_2 g6_g7_2 k6_g7_3 g6_g7_3 k6_g8_0 g6_g8_0 k6_g8_1 g6_g8_1 k6_g8_2 g6_g8_2 k6_g8_3 g6_g8_3 k6_g9_0 g6_g9_0 k6_g9_1 g6_g9_1 k6_g9_2 g6_g9_2 k6_g9_3 g6_g9_3 k6_g10_0 g6_g10_0 k6_g10_1 g6_g10_1 k6_g10_2 g6_g10_2 k6_g10_3 g6_g10_3 e6_0 B6 z6; intro f hf; have u54 : f 54 = (.int .i64 lv) := (by rw [← hf]; rfl); have u56 : f 56 = (.int .i64 ly) := (by rw [← hf]; rfl); clear hf; intro w' _; simp only [execOp, resolve, invoke, rhoF_tmp, rhoF_func, rhoF_const, u54, u56, List.map_toArray, List.map_cons, List.map_nil]; go_simp
    · clear k6_b2_0 g6_b2_0 k6_b2_1 g6_b2_1 k6_b2_2 g6_b2_2 k6_b2_3 g6_b2_3 k6_b3_0 g6_b3_0 k6_b3_1 g6_b3_1 k6_b3_2 g6_b3_2 k6_b3_3 g6_b3_3 k6_g5_0 g6_g5_0 k6_g5_1 g6_g5_1 k6_g5_2 g6_g5_2 k6_g5_3 g6_g5_3 k6_g6_0 g6_g6_0 k6_g6_1 g6_g6_1 k6_g6_2 g6_g6_2 k6_g6_3 g6_g6_3 k6_g7_0 g6_g7_0 k6_g7_1 g6_g7_1 k6_g7_2 g6_g7_2 k6_g7_3 g6_g7_3 k6_g8_0 g6_g8_0 k6_g8_1 g6_g8_1 k6_g8_2 g6_g8_2 k6_g8_3 g6_g8_3 k6_g9_0 g6_g9_0 k6_g9_1 g6_g9_1 k6_g9_2 g6_g9_2 k6_g9_3 g6_g9_3 k6_g10_0 g6_g10_0 k6_g10_1 g6_g10_1 k6_g10_2 g6_g10_2 k6_g10_3 g6_g10_3 e6_0 B6 z6; rintro w' ⟨h0, h1, h2, h3, h4, h5, h6, h7, h8, h9, h10, h11, h12, h13, h14, h15, h16, h17, h18, h19, h20, h21, h22, h23, h24, h25, h26, h27, h28, h29, h30, h31, h32, h33, h34, h35, h36, h37, h38, h39, h40, h41, h42, h43, h44, h45, h46, h47, h48, h49, h50, h51, h52, h53, h54, h55, h56, h57, h58, h59, h60, h61, h62, h63, h64⟩; exact (cnv _).mono (by rintro e w2 ⟨rfl, rfl⟩; exact ⟨rfl, Below.refl _ _⟩)
    refine obe_val (by rfl) ?_ ?_
    · clear k6_b2_0 g6_b2_0 k6_b2_1 g6_b2_1 k6_b2_2 g6_b2_2 k6_b2_3 g6_b2_3 k6_b3_0 g6_b3_0 k6_b3_1 g6_b3_1 k6_b3_2 g6_b3_2 k6_b3_3 g6_b3_3 k6_g5_0 g6_g5_0 k6_g5_1 g6_g5_1 k6_g5_2 g6_g5_2 k6_g5_3 g6_g5_3 k6_g6_0 g6_g6_0 k6_g6_1 g6_g6_1 k6_g6_2 g6_g6_2 k6_g6_3 g6_g6_3 k6_g7_0 g6_g7_0 k6_g7_1 g6_g7_1 k6_g7_2 g6_g7_2 k6_g7_3 g6_g7_3 k6_g8_0 g6_g8_0 k6_g8_1 g6_g8_1 k6_g8_2 g6_g8_2 k6_g8_3 g6_g8_3 k6_g9_0 g6_g9_0 k6_g9_1 g6_g9_1 k6_g9_2 g6_g9_2 k6_g9_3 g6_g9_3 k6_g10_0 g6_g10_0 k6_g10_1 g6_g10_1 k6_g10_2 g6_g10_2 k6_g10_3 g6_g10_3 e6_0 B6 z6; intro f hf; have u52 : f 52 = (.bool true) := (by rw [← hf]; rfl); have u57 : f 57 = (.bool true) := (by rw [← hf]; rfl); clear hf; rintro w' ⟨h0, h1, h2, h3, h4, h5, h6, h7, h8, h9, h10, h11, h12, h13, h14, h15, h16, h17, h18, h19, h20, h21, h22, h23, h24, h25, h26, h27, h28, h29, h30, h31, h32, h33, h34, h35, h36, h37, h38, h39, h40, h41, h42, h43, h44, h45, h46, h47, h48, h49, h50, h51, h52, h53, h54, h55, h56, h57, h58, h59, h60, h61, h62, h63, h64⟩; go_simp; try exact IntWalk.i64_in _ (by omega)
    refine obe_val (by rfl) ?_ ?_
    · clear k6_b2_0 g6_b2_0 k6_b2_1 g6_b2_1 k6_b2_2 g6_b2_2 k6_b2_3 g6_b2_3 k6_b3_0 g6_b3_0 k6_b3_1 g6_b3_1 k6_b3_2 g6_b3_2 k6_b3_3 g6_b3_3 k6_g5_0 g6_g5_0 k6_g5_1 g6_g5_1 k6_g5_2 g6_g5_2 k6_g5_3 g6_g5_3 k6_g6_0 g6_g6_0 k6_g6_1 g6_g6_1 k6_g6_2 g6_g6_2 k6_g6_3 g6_g6_3 k6_g7_0 g6_g7_0 k6_g7_1 g6_g7_1 k6_g7_2 g6_g7_2 k6_g7_3 g6_g7_3 k6_g8_0 g6_g8_0 k6_g8_1 g6_g8_1 k6_g8_2 g6_g8_2 k6_g8_3 g6_g8_3 k6_g9_0 g6_g9_0 k6_g9_1 g6_g9_1 k6_g9_2 g6_g9_2 k6_g9_3 g6_g9_3 k6_g10_0 g6_g10_0 k6_g10_1 g6_g10_1 k6_g10_2 g6_g10_2 k6_g10_3 g6_g10_3 e6_0 B6 z6; intro f hf; have u58 : f 58 = (.bool true) := (by rw [← hf]; rfl); clear hf; rintro w' ⟨h0, h1, h2, h3, h4, h5, h6, h7, h8, h9, h10, h11, h12, h13, h14, h15, h16, h17, h18, h19, h20, h21, h22, h23, h24, h25, h26, h27, h28, h29, h30, h31, h32, h33, h34, h35, h36, h37, h38, h39, h40, h41, h42, h43, h44, h45, h46, h47, h48, h49, h50, h51, h52, h53, h54, h55, h56, h57, h58, h59, h60, h61, h62, h63, h64⟩; go_simp; try exact IntWalk.i64_in _ (by omega)
    refine obe_val (by rfl) ?_ ?_
    · clear k6_b2_0 g6_b2_0 k6_b2_1 g6_b2_1 k6_b2_2 g6_b2_2 k6_b2_3 g6_b2_3 k6_b3_0 g6_b3_0 k6_b3_1 g6_b3_1 k6_b3_2 g6_b3_2 k6_b3_3 g6_b3_3 k6_g5_0 g6_g5_0 k6_g5_1 g6_g5_1 k6_g5_2 g6_g5_2 k6_g5_3 g6_g5_3 k6_g6_0 g6_g6_0 k6_g6_1 g6_g6_1 k6_g6_2 g6_g6_2 k6_g6_3 g6_g6_3 k6_g7_0 g6_g7_0 k6_g7_1 g6_g7_1 k6_g7_2 g6_g7_2 k6_g7_3 g6_g7_3 k6_g8_0 g6_g8_0 k6_g8_1 g6_g8_1 k6_g8_2 g6_g8_2 k6_g8_3 g6_g8_3 k6_g9_0 g6_g9_0 k6_g9_1 g6_g9_1 k6_g9_2 g6_g9_2 k6_g9_3 g6_g9_3 k6_g10_0 g6_g10_0 k6_g10_1 g6_g10_1 k6_g10_2 g6_g10_2 k6_g10_3 g6_g10_3 e6_0 B6 z6; intro f hf; have u9 : f 9 = (.pointer (some ⟨g9, 0, none⟩)) := (by rw [← hf]; rfl); clear hf; rintro w' ⟨h0, h1, h2, h3, h4, h5, h6, h7, h8, h9, h10, h11, h12, h13, h14, h15, h16, h17, h18, h19, h20, h21, h22, h23, h24, h25, h26, h27, h28, h29, h30, h31, h32, h33, h34, h35, h36, h37, h38, h39, h40, h41, h42, h43, h44, h45, h46, h47, h48, h49, h50, h51, h52, h53, h54, h55, h56, h57, h58, h59, h60, h61, h62, h63, h64⟩; go_simp; try exact IntWalk.i64_in _ (by omega)
    refine obe_call (by rfl) ?_ ?_ ?_
    · clear k6_b2_0 g6_b2_0 k6_b2_1 g6_b2_1 k6_b2_2 g6_b2_2 k6_b2_3 g6_b2_3 k6_b3_0 g6_b3_0 k6_b3_1 g6_b3_1 k6_b3_2 g6_b3_2 k6_b3_3 g6_b3_3 k6_g5_0 g6_g5_0 k6_g5_1 g6_g5_1 k6_g5_2 g6_g5_2 k6_g5_3 g6_g5_3 k6_g6_0 g6_g6_0 k6_g6_1 g6_g6_1 k6_g6_2 g6_g6_2 k6_g6_3 g6_g6_3 k6_g7_0 g6_g7_0 k6_g7_1 g6_g7_1 k6_g7_2 g6_g7_2 k6_g7_3 g6_g7_3 k6_g8_0 g6_g8_0 k6_g8_1 g6_g8_1 k6_g8_2 g6_g8_2 k6_g8_3 g6_g8_3 k6_g9_0 g6_g9_0 k6_g9_1 g6_g9_1 k6_g9_2 g6_g9_2 k6_g9_3 g6_g9_3 k6_g10_0 g6_g10_0 k6_g10_1 g6_g10_1 k6_g10_2 g6_g10_2 k6_g10_3 g6_g10_3 e6_0 B6 z6; intro f hf; have u60 : f 60 = (.agg #[.int .u8 jq0, .int .u8 jq1, .int .u8 jq2, .int .u8 255]) := (by rw [← hf]; rfl); clear hf; intro w' _; simp only [execOp, resolve, invoke, rhoF_tmp, rhoF_func, rhoF_const, u60, List.map_toArray, List.map_cons, List.map_nil]; go_simp
    · clear k6_b2_0 g6_b2_0 k6_b2_1 g6_b2_1 k6_b2_2 g6_b2_2 k6_b2_3 g6_b2_3 k6_b3_0 g6_b3_0 k6_b3_1 g6_b3_1 k6_b3_2 g6_b3_2 k6_b3_3 g6_b3_3 k6_g5_0 g6_g5_0 k6_g5_1 g6_g5_1 k6_g5_2 g6_g5_2 k6_g5_3 g6_g5_3 k6_g6_0 g6_g6_0 k6_g6_1 g6_g6_1 k6_g6_2 g6_g6_2 k6_g6_3 g6_g6_3 k6_g7_0 g6_g7_0 k6_g7_1 g6_g7_1 k6_g7_2 g6_g7_2 k6_g7_3 g6_g7_3 k6_g8_0 g6_g8_0 k6_g8_1 g6_g8_1 k6_g8_2 g6_g8_2 k6_g8_3 g6_g8_3 k6_g9_0 g6_g9_0 k6_g9_1 g6_g9_1 k6_g9_2 g6_g9_2 k6_g9_3 g6_g9_3 k6_g10_0 g6_g10_0 k6_g10_1 g6_g10_1 k6_g10_2 g6_g10_2 k6_g10_3 g6_g10_3 e6_0 B6 z6; rintro w' ⟨h0, h1, h2, h3, h4, h5, h6, h7, h8, h9, h10, h11, h12, h13, h14, h15, h16, h17, h18, h19, h20, h21, h22, h23, h24, h25, h26, h27, h28, h29, h30, h31, h32, h33, h34, h35, h36, h37, h38, h39, h40, h41, h42, h43, h44, h45, h46, h47, h48, h49, h50, h51, h52, h53, h54, h55, h56, h57, h58, h59, h60, h61, h62, h63, h64⟩; exact clj _
    refine obe_val (by rfl) ?_ ?_
    · clear k6_b2_0 g6_b2_0 k6_b2_1 g6_b2_1 k6_b2_2 g6_b2_2 k6_b2_3 g6_b2_3 k6_b3_0 g6_b3_0 k6_b3_1 g6_b3_1 k6_b3_2 g6_b3_2 k6_b3_3 g6_b3_3 k6_g5_0 g6_g5_0 k6_g5_1 g6_g5_1 k6_g5_2 g6_g5_2 k6_g5_3 g6_g5_3 k6_g6_0 g6_g6_0 k6_g6_1 g6_g6_1 k6_g6_2 g6_g6_2 k6_g6_3 g6_g6_3 k6_g7_0 g6_g7_0 k6_g7_1 g6_g7_1 k6_g7_2 g6_g7_2 k6_g7_3 g6_g7_3 k6_g8_0 g6_g8_0 k6_g8_1 g6_g8_1 k6_g8_2 g6_g8_2 k6_g8_3 g6_g8_3 k6_g9_0 g6_g9_0 k6_g9_1 g6_g9_1 k6_g9_2 g6_g9_2 k6_g9_3 g6_g9_3 k6_g10_0 g6_g10_0 k6_g10_1 g6_g10_1 k6_g10_2 g6_g10_2 k6_g10_3 g6_g10_3 e6_0 B6 z6; intro f hf; have u6 : f 6 = (.pointer (some ⟨g6, 0, none⟩)) := (by rw [← hf]; rfl); clear hf; rintro w' ⟨h0, h1, h2, h3, h4, h5, h6, h7, h8, h9, h10, h11, h12, h13, h14, h15, h16, h17, h18, h19, h20, h21, h22, h23, h24, h25, h26, h27, h28, h29, h30, h31, h32, h33, h34, h35, h36, h37, h38, h39, h40, h41, h42, h43, h44, h45, h46, h47, h48, h49, h50, h51, h52, h53, h54, h55, h56, h57, h58, h59, h60, h61, h62, h63, h64⟩; go_simp; try exact IntWalk.i64_in _ (by omega)
    refine obe_call (by rfl) ?_ ?_ ?_
    · clear k6_b2_0 g6_b2_0 k6_b2_1 g6_b2_1 k6_b2_2 g6_b2_2 k6_b2_3 g6_b2_3 k6_b3_0 g6_b3_0 k6_b3_1 g6_b3_1 k6_b3_2 g6_b3_2 k6_b3_3 g6_b3_3 k6_g5_0 g6_g5_0 k6_g5_1 g6_g5_1 k6_g5_2 g6_g5_2 k6_g5_3 g6_g5_3 k6_g6_0 g6_g6_0 k6_g6_1 g6_g6_1 k6_g6_2 g6_g6_2 k6_g6_3 g6_g6_3 k6_g7_0 g6_g7_0 k6_g7_1 g6_g7_1 k6_g7_2 g6_g7_2 k6_g7_3 g6_g7_3 k6_g8_0 g6_g8_0 k6_g8_1 g6_g8_1 k6_g8_2 g6_g8_2 k6_g8_3 g6_g8_3 k6_g9_0 g6_g9_0 k6_g9_1 g6_g9_1 k6_g9_2 g6_g9_2 k6_g9_3 g6_g9_3 k6_g10_0 g6_g10_0 k6_g10_1 g6_g10_1 k6_g10_2 g6_g10_2 k6_g10_3 g6_g10_3 e6_0 B6 z6; intro f hf; have u62 : f 62 = (.agg #[.int .u8 s, .int .u8 t, .int .u8 u, .int .u8 255]) := (by rw [← hf]; rfl); clear hf; intro w' _; simp only [execOp, resolve, invoke, rhoF_tmp, rhoF_func, rhoF_const, u62, List.map_toArray, List.map_cons, List.map_nil]; go_simp
    · clear k6_b2_0 g6_b2_0 k6_b2_1 g6_b2_1 k6_b2_2 g6_b2_2 k6_b2_3 g6_b2_3 k6_b3_0 g6_b3_0 k6_b3_1 g6_b3_1 k6_b3_2 g6_b3_2 k6_b3_3 g6_b3_3 k6_g5_0 g6_g5_0 k6_g5_1 g6_g5_1 k6_g5_2 g6_g5_2 k6_g5_3 g6_g5_3 k6_g6_0 g6_g6_0 k6_g6_1 g6_g6_1 k6_g6_2 g6_g6_2 k6_g6_3 g6_g6_3 k6_g7_0 g6_g7_0 k6_g7_1 g6_g7_1 k6_g7_2 g6_g7_2 k6_g7_3 g6_g7_3 k6_g8_0 g6_g8_0 k6_g8_1 g6_g8_1 k6_g8_2 g6_g8_2 k6_g8_3 g6_g8_3 k6_g9_0 g6_g9_0 k6_g9_1 g6_g9_1 k6_g9_2 g6_g9_2 k6_g9_3 g6_g9_3 k6_g10_0 g6_g10_0 k6_g10_1 g6_g10_1 k6_g10_2 g6_g10_2 k6_g10_3 g6_g10_3 e6_0 B6 z6; rintro w' ⟨h0, h1, h2, h3, h4, h5, h6, h7, h8, h9, h10, h11, h12, h13, h14, h15, h16, h17, h18, h19, h20, h21, h22, h23, h24, h25, h26, h27, h28, h29, h30, h31, h32, h33, h34, h35, h36, h37, h38, h39, h40, h41, h42, h43, h44, h45, h46, h47, h48, h49, h50, h51, h52, h53, h54, h55, h56, h57, h58, h59, h60, h61, h62, h63, h64⟩; exact cly _
    refine obe_call (by rfl) ?_ ?_ ?_
    · clear k6_b2_0 g6_b2_0 k6_b2_1 g6_b2_1 k6_b2_2 g6_b2_2 k6_b2_3 g6_b2_3 k6_b3_0 g6_b3_0 k6_b3_1 g6_b3_1 k6_b3_2 g6_b3_2 k6_b3_3 g6_b3_3 k6_g5_0 g6_g5_0 k6_g5_1 g6_g5_1 k6_g5_2 g6_g5_2 k6_g5_3 g6_g5_3 k6_g6_0 g6_g6_0 k6_g6_1 g6_g6_1 k6_g6_2 g6_g6_2 k6_g6_3 g6_g6_3 k6_g7_0 g6_g7_0 k6_g7_1 g6_g7_1 k6_g7_2 g6_g7_2 k6_g7_3 g6_g7_3 k6_g8_0 g6_g8_0 k6_g8_1 g6_g8_1 k6_g8_2 g6_g8_2 k6_g8_3 g6_g8_3 k6_g9_0 g6_g9_0 k6_g9_1 g6_g9_1 k6_g9_2 g6_g9_2 k6_g9_3 g6_g9_3 k6_g10_0 g6_g10_0 k6_g10_1 g6_g10_1 k6_g10_2 g6_g10_2 k6_g10_3 g6_g10_3 e6_0 B6 z6; intro f hf; have u61 : f 61 = (.int .i64 lj) := (by rw [← hf]; rfl); have u63 : f 63 = (.int .i64 ly) := (by rw [← hf]; rfl); clear hf; intro w' _; simp only [execOp, resolve, invoke, rhoF_tmp, rhoF_func, rhoF_const, u61, u63, List.map_toArray, List.map_cons, List.map_nil]; go_simp
    · clear k6_b2_0 g6_b2_0 k6_b2_1 g6_b2_1 k6_b2_2 g6_b2_2 k6_b2_3 g6_b2_3 k6_b3_0 g6_b3_0 k6_b3_1 g6_b3_1 k6_b3_2 g6_b3_2 k6_b3_3 g6_b3_3 k6_g5_0 g6_g5_0 k6_g5_1 g6_g5_1 k6_g5_2 g6_g5_2 k6_g5_3 g6_g5_3 k6_g6_0 g6_g6_0 k6_g6_1 g6_g6_1 k6_g6_2 g6_g6_2 k6_g6_3 g6_g6_3 k6_g7_0 g6_g7_0 k6_g7_1 g6_g7_1 k6_g7_2 g6_g7_2 k6_g7_3 g6_g7_3 k6_g8_0 g6_g8_0 k6_g8_1 g6_g8_1 k6_g8_2 g6_g8_2 k6_g8_3 g6_g8_3 k6_g9_0 g6_g9_0 k6_g9_1 g6_g9_1 k6_g9_2 g6_g9_2 k6_g9_3 g6_g9_3 k6_g10_0 g6_g10_0 k6_g10_1 g6_g10_1 k6_g10_2 g6_g10_2 k6_g10_3 g6_g10_3 e6_0 B6 z6; rintro w' ⟨h0, h1, h2, h3, h4, h5, h6, h7, h8, h9, h10, h11, h12, h13, h14, h15, h16, h17, h18, h19, h20, h21, h22, h23, h24, h25, h26, h27, h28, h29, h30, h31, h32, h33, h34, h35, h36, h37, h38, h39, h40, h41, h42, h43, h44, h45, h46, h47, h48, h49, h50, h51, h52, h53, h54, h55, h56, h57, h58, h59, h60, h61, h62, h63, h64⟩; exact (cnj _).mono (by rintro e w2 ⟨rfl, rfl⟩; exact ⟨rfl, Below.refl _ _⟩)
    refine obe_val (by rfl) ?_ ?_
    · clear k6_b2_0 g6_b2_0 k6_b2_1 g6_b2_1 k6_b2_2 g6_b2_2 k6_b2_3 g6_b2_3 k6_b3_0 g6_b3_0 k6_b3_1 g6_b3_1 k6_b3_2 g6_b3_2 k6_b3_3 g6_b3_3 k6_g5_0 g6_g5_0 k6_g5_1 g6_g5_1 k6_g5_2 g6_g5_2 k6_g5_3 g6_g5_3 k6_g6_0 g6_g6_0 k6_g6_1 g6_g6_1 k6_g6_2 g6_g6_2 k6_g6_3 g6_g6_3 k6_g7_0 g6_g7_0 k6_g7_1 g6_g7_1 k6_g7_2 g6_g7_2 k6_g7_3 g6_g7_3 k6_g8_0 g6_g8_0 k6_g8_1 g6_g8_1 k6_g8_2 g6_g8_2 k6_g8_3 g6_g8_3 k6_g9_0 g6_g9_0 k6_g9_1 g6_g9_1 k6_g9_2 g6_g9_2 k6_g9_3 g6_g9_3 k6_g10_0 g6_g10_0 k6_g10_1 g6_g10_1 k6_g10_2 g6_g10_2 k6_g10_3 g6_g10_3 e6_0 B6 z6; intro f hf; have u59 : f 59 = (.bool true) := (by rw [← hf]; rfl); have u64 : f 64 = (.bool true) := (by rw [← hf]; rfl); clear hf; rintro w' ⟨h0, h1, h2, h3, h4, h5, h6, h7, h8, h9, h10, h11, h12, h13, h14, h15, h16, h17, h18, h19, h20, h21, h22, h23, h24, h25, h26, h27, h28, h29, h30, h31, h32, h33, h34, h35, h36, h37, h38, h39, h40, h41, h42, h43, h44, h45, h46, h47, h48, h49, h50, h51, h52, h53, h54, h55, h56, h57, h58, h59, h60, h61, h62, h63, h64⟩; go_simp; try exact IntWalk.i64_in _ (by omega)
    refine obe_val (by rfl) ?_ ?_
    · clear k6_b2_0 g6_b2_0 k6_b2_1 g6_b2_1 k6_b2_2 g6_b2_2 k6_b2_3 g6_b2_3 k6_b3_0 g6_b3_0 k6_b3_1 g6_b3_1 k6_b3_2 g6_b3_2 k6_b3_3 g6_b3_3 k6_g5_0 g6_g5_0 k6_g5_1 g6_g5_1 k6_g5_2 g6_g5_2 k6_g5_3 g6_g5_3 k6_g6_0 g6_g6_0 k6_g6_1 g6_g6_1 k6_g6_2 g6_g6_2 k6_g6_3 g6_g6_3 k6_g7_0 g6_g7_0 k6_g7_1 g6_g7_1 k6_g7_2 g6_g7_2 k6_g7_3 g6_g7_3 k6_g8_0 g6_g8_0 k6_g8_1 g6_g8_1 k6_g8_2 g6_g8_2 k6_g8_3 g6_g8_3 k6_g9_0 g6_g9_0 k6_g9_1 g6_g9_1 k6_g9_2 g6_g9_2 k6_g9_3 g6_g9_3 k6_g10_0 g6_g10_0 k6_g10_1 g6_g10_1 k6_g10_2 g6_g10_2 k6_g10_3 g6_g10_3 e6_0 B6 z6; intro f hf; have u65 : f 65 = (.bool true) := (by rw [← hf]; rfl); clear hf; rintro w' ⟨h0, h1, h2, h3, h4, h5, h6, h7, h8, h9, h10, h11, h12, h13, h14, h15, h16, h17, h18, h19, h20, h21, h22, h23, h24, h25, h26, h27, h28, h29, h30, h31, h32, h33, h34, h35, h36, h37, h38, h39, h40, h41, h42, h43, h44, h45, h46, h47, h48, h49, h50, h51, h52, h53, h54, h55, h56, h57, h58, h59, h60, h61, h62, h63, h64⟩; go_simp; try exact IntWalk.i64_in _ (by omega)
    refine obe_val (by rfl) ?_ ?_
    · clear k6_b2_0 g6_b2_0 k6_b2_1 g6_b2_1 k6_b2_2 g6_b2_2 k6_b2_3 g6_b2_3 k6_b3_0 g6_b3_0 k6_b3_1 g6_b3_1 k6_b3_2 g6_b3_2 k6_b3_3 g6_b3_3 k6_g5_0 g6_g5_0 k6_g5_1 g6_g5_1 k6_g5_2 g6_g5_2 k6_g5_3 g6_g5_3 k6_g6_0 g6_g6_0 k6_g6_1 g6_g6_1 k6_g6_2 g6_g6_2 k6_g6_3 g6_g6_3 k6_g7_0 g6_g7_0 k6_g7_1 g6_g7_1 k6_g7_2 g6_g7_2 k6_g7_3 g6_g7_3 k6_g8_0 g6_g8_0 k6_g8_1 g6_g8_1 k6_g8_2 g6_g8_2 k6_g8_3 g6_g8_3 k6_g9_0 g6_g9_0 k6_g9_1 g6_g9_1 k6_g9_2 g6_g9_2 k6_g9_3 g6_g9_3 k6_g10_0 g6_g10_0 k6_g10_1 g6_g10_1 k6_g10_2 g6_g10_2 k6_g10_3 g6_g10_3 e6_0 B6 z6; intro f hf; have u10 : f 10 = (.pointer (some ⟨g10, 0, none⟩)) := (by rw [← hf]; rfl); clear hf; rintro w' ⟨h0, h1, h2, h3, h4, h5, h6, h7, h8, h9, h10, h11, h12, h13, h14, h15, h16, h17, h18, h19, h20, h21, h22, h23, h24, h25, h26, h27, h28, h29, h30, h31, h32, h33, h34, h35, h36, h37, h38, h39, h40, h41, h42, h43, h44, h45, h46, h47, h48, h49, h50, h51, h52, h53, h54, h55, h56, h57, h58, h59, h60, h61, h62, h63, h64⟩; go_simp; try exact IntWalk.i64_in _ (by omega)
    refine obe_call (by rfl) ?_ ?_ ?_
    · clear k6_b2_0 g6_b2_0 k6_b2_1 g6_b2_1 k6_b2_2 g6_b2_2 k6_b2_3 g6_b2_3 k6_b3_0 g6_b3_0 k6_b3_1 g6_b3_1 k6_b3_2 g6_b3_2 k6_b3_3 g6_b3_3 k6_g5_0 g6_g5_0 k6_g5_1 g6_g5_1 k6_g5_2 g6_g5_2 k6_g5_3 g6_g5_3 k6_g6_0 g6_g6_0 k6_g6_1 g6_g6_1 k6_g6_2 g6_g6_2 k6_g6_3 g6_g6_3 k6_g7_0 g6_g7_0 k6_g7_1 g6_g7_1 k6_g7_2 g6_g7_2 k6_g7_3 g6_g7_3 k6_g8_0 g6_g8_0 k6_g8_1 g6_g8_1 k6_g8_2 g6_g8_2 k6_g8_3 g6_g8_3 k6_g9_0 g6_g9_0 k6_g9_1 g6_g9_1 k6_g9_2 g6_g9_2 k6_g9_3 g6_g9_3 k6_g10_0 g6_g10_0 k6_g10_1 g6_g10_1 k6_g10_2 g6_g10_2 k6_g10_3 g6_g10_3 e6_0 B6 z6; intro f hf; have u67 : f 67 = (.agg #[.int .u8 kq0, .int .u8 kq1, .int .u8 kq2, .int .u8 255]) := (by rw [← hf]; rfl); clear hf; intro w' _; simp only [execOp, resolve, invoke, rhoF_tmp, rhoF_func, rhoF_const, u67, List.map_toArray, List.map_cons, List.map_nil]; go_simp
    · clear k6_b2_0 g6_b2_0 k6_b2_1 g6_b2_1 k6_b2_2 g6_b2_2 k6_b2_3 g6_b2_3 k6_b3_0 g6_b3_0 k6_b3_1 g6_b3_1 k6_b3_2 g6_b3_2 k6_b3_3 g6_b3_3 k6_g5_0 g6_g5_0 k6_g5_1 g6_g5_1 k6_g5_2 g6_g5_2 k6_g5_3 g6_g5_3 k6_g6_0 g6_g6_0 k6_g6_1 g6_g6_1 k6_g6_2 g6_g6_2 k6_g6_3 g6_g6_3 k6_g7_0 g6_g7_0 k6_g7_1 g6_g7_1 k6_g7_2 g6_g7_2 k6_g7_3 g6_g7_3 k6_g8_0 g6_g8_0 k6_g8_1 g6_g8_1 k6_g8_2 g6_g8_2 k6_g8_3 g6_g8_3 k6_g9_0 g6_g9_0 k6_g9_1 g6_g9_1 k6_g9_2 g6_g9_2 k6_g9_3 g6_g9_3 k6_g10_0 g6_g10_0 k6_g10_1 g6_g10_1 k6_g10_2 g6_g10_2 k6_g10_3 g6_g10_3 e6_0 B6 z6; rintro w' ⟨h0, h1, h2, h3, h4, h5, h6, h7, h8, h9, h10, h11, h12, h13, h14, h15, h16, h17, h18, h19, h20, h21, h22, h23, h24, h25, h26, h27, h28, h29, h30, h31, h32, h33, h34, h35, h36, h37, h38, h39, h40, h41, h42, h43, h44, h45, h46, h47, h48, h49, h50, h51, h52, h53, h54, h55, h56, h57, h58, h59, h60, h61, h62, h63, h64⟩; exact clk _
    refine obe_val (by rfl) ?_ ?_
    · clear k6_b2_0 g6_b2_0 k6_b2_1 g6_b2_1 k6_b2_2 g6_b2_2 k6_b2_3 g6_b2_3 k6_b3_0 g6_b3_0 k6_b3_1 g6_b3_1 k6_b3_2 g6_b3_2 k6_b3_3 g6_b3_3 k6_g5_0 g6_g5_0 k6_g5_1 g6_g5_1 k6_g5_2 g6_g5_2 k6_g5_3 g6_g5_3 k6_g6_0 g6_g6_0 k6_g6_1 g6_g6_1 k6_g6_2 g6_g6_2 k6_g6_3 g6_g6_3 k6_g7_0 g6_g7_0 k6_g7_1 g6_g7_1 k6_g7_2 g6_g7_2 k6_g7_3 g6_g7_3 k6_g8_0 g6_g8_0 k6_g8_1 g6_g8_1 k6_g8_2 g6_g8_2 k6_g8_3 g6_g8_3 k6_g9_0 g6_g9_0 k6_g9_1 g6_g9_1 k6_g9_2 g6_g9_2 k6_g9_3 g6_g9_3 k6_g10_0 g6_g10_0 k6_g10_1 g6_g10_1 k6_g10_2 g6_g10_2 k6_g10_3 g6_g10_3 e6_0 B6 z6; intro f hf; have u5 : f 5 = (.pointer (some ⟨g5, 0, none⟩)) := (by rw [← hf]; rfl); clear hf; rintro w' ⟨h0, h1, h2, h3, h4, h5, h6, h7, h8, h9, h10, h11, h12, h13, h14, h15, h16, h17, h18, h19, h20, h21, h22, h23, h24, h25, h26, h27, h28, h29, h30, h31, h32, h33, h34, h35, h36, h37, h38, h39, h40, h41, h42, h43, h44, h45, h46, h47, h48, h49, h50, h51, h52, h53, h54, h55, h56, h57, h58, h59, h60, h61, h62, h63, h64⟩; go_simp; try exact IntWalk.i64_in _ (by omega)
    refine obe_call (by rfl) ?_ ?_ ?_
    · clear k6_b2_0 g6_b2_0 k6_b2_1 g6_b2_1 k6_b2_2 g6_b2_2 k6_b2_3 g6_b2_3 k6_b3_0 g6_b3_0 k6_b3_1 g6_b3_1 k6_b3_2 g6_b3_2 k6_b3_3 g6_b3_3 k6_g5_0 g6_g5_0 k6_g5_1 g6_g5_1 k6_g5_2 g6_g5_2 k6_g5_3 g6_g5_3 k6_g6_0 g6_g6_0 k6_g6_1 g6_g6_1 k6_g6_2 g6_g6_2 k6_g6_3 g6_g6_3 k6_g7_0 g6_g7_0 k6_g7_1 g6_g7_1 k6_g7_2 g6_g7_2 k6_g7_3 g6_g7_3 k6_g8_0 g6_g8_0 k6_g8_1 g6_g8_1 k6_g8_2 g6_g8_2 k6_g8_3 g6_g8_3 k6_g9_0 g6_g9_0 k6_g9_1 g6_g9_1 k6_g9_2 g6_g9_2 k6_g9_3 g6_g9_3 k6_g10_0 g6_g10_0 k6_g10_1 g6_g10_1 k6_g10_2 g6_g10_2 k6_g10_3 g6_g10_3 e6_0 B6 z6; intro f hf; have u69 : f 69 = (.agg #[.int .u8 r, .int .u8 g, .int .u8 b, .int .u8 255]) := (by rw [← hf]; rfl); clear hf; intro w' _; simp only [execOp, resolve, invoke, rhoF_tmp, rhoF_func, rhoF_const, u69, List.map_toArray, List.map_cons, List.map_nil]; go_simp
    · clear k6_b2_0 g6_b2_0 k6_b2_1 g6_b2_1 k6_b2_2 g6_b2_2 k6_b2_3 g6_b2_3 k6_b3_0 g6_b3_0 k6_b3_1 g6_b3_1 k6_b3_2 g6_b3_2 k6_b3_3 g6_b3_3 k6_g5_0 g6_g5_0 k6_g5_1 g6_g5_1 k6_g5_2 g6_g5_2 k6_g5_3 g6_g5_3 k6_g6_0 g6_g6_0 k6_g6_1 g6_g6_1 k6_g6_2 g6_g6_2 k6_g6_3 g6_g6_3 k6_g7_0 g6_g7_0 k6_g7_1 g6_g7_1 k6_g7_2 g6_g7_2 k6_g7_3 g6_g7_3 k6_g8_0 g6_g8_0 k6_g8_1 g6_g8_1 k6_g8_2 g6_g8_2 k6_g8_3 g6_g8_3 k6_g9_0 g6_g9_0 k6_g9_1 g6_g9_1 k6_g9_2 g6_g9_2 k6_g9_3 g6_g9_3 k6_g10_0 g6_g10_0 k6_g10_1 g6_g10_1 k6_g10_2 g6_g10_2 k6_g10_3 g6_g10_3 e6_0 B6 z6; rintro w' ⟨h0, h1, h2, h3, h4, h5, h6, h7, h8, h9, h10, h11, h12, h13, h14, h15, h16, h17, h18, h19, h20, h21, h22, h23, h24, h25, h26, h27, h28, h29, h30, h31, h32, h33, h34, h35, h36, h37, h38, h39, h40, h41, h42, h43, h44, h45, h46, h47, h48, h49, h50, h51, h52, h53, h54, h55, h56, h57, h58, h59, h60, h61, h62, h63, h64⟩; exact clx _
    refine obe_call (by rfl) ?_ ?_ ?_
    · clear k6_b2_0 g6_b2_0 k6_b2_1 g6_b2_1 k6_b2_2 g6_b2_2 k6_b2_3 g6_b2_3 k6_b3_0 g6_b3_0 k6_b3_1 g6_b3_1 k6_b3_2 g6_b3_2 k6_b3_3 g6_b3_3 k6_g5_0 g6_g5_0 k6_g5_1 g6_g5_1 k6_g5_2 g6_g5_2 k6_g5_3 g6_g5_3 k6_g6_0 g6_g6_0 k6_g6_1 g6_g6_1 k6_g6_2 g6_g6_2 k6_g6_3 g6_g6_3 k6_g7_0 g6_g7_0 k6_g7_1 g6_g7_1 k6_g7_2 g6_g7_2 k6_g7_3 g6_g7_3 k6_g8_0 g6_g8_0 k6_g8_1 g6_g8_1 k6_g8_2 g6_g8_2 k6_g8_3 g6_g8_3 k6_g9_0 g6_g9_0 k6_g9_1 g6_g9_1 k6_g9_2 g6_g9_2 k6_g9_3 g6_g9_3 k6_g10_0 g6_g10_0 k6_g10_1 g6_g10_1 k6_g10_2 g6_g10_2 k6_g10_3 g6_g10_3 e6_0 B6 z6; intro f hf; have u68 : f 68 = (.int .i64 lk) := (by rw [← hf]; rfl); have u70 : f 70 = (.int .i64 lx) := (by rw [← hf]; rfl); clear hf; intro w' _; simp only [execOp, resolve, invoke, rhoF_tmp, rhoF_func, rhoF_const, u68, u70, List.map_toArray, List.map_cons, List.map_nil]; go_simp
    · clear k6_b2_0 g6_b2_0 k6_b2_1 g6_b2_1 k6_b2_2 g6_b2_2 k6_b2_3 g6_b2_3 k6_b3_0 g6_b3_0 k6_b3_1 g6_b3_1 k6_b3_2 g6_b3_2 k6_b3_3 g6_b3_3 k6_g5_0 g6_g5_0 k6_g5_1 g6_g5_1 k6_g5_2 g6_g5_2 k6_g5_3 g6_g5_3 k6_g6_0 g6_g6_0 k6_g6_1 g6_g6_1 k6_g6_2 g6_g6_2 k6_g6_3 g6_g6_3 k6_g7_0 g6_g7_0 k6_g7_1 g6_g7_1 k6_g7_2 g6_g7_2 k6_g7_3 g6_g7_3 k6_g8_0 g6_g8_0 k6_g8_1 g6_g8_1 k6_g8_2 g6_g8_2 k6_g8_3 g6_g8_3 k6_g9_0 g6_g9_0 k6_g9_1 g6_g9_1 k6_g9_2 g6_g9_2 k6_g9_3 g6_g9_3 k6_g10_0 g6_g10_0 k6_g10_1 g6_g10_1 k6_g10_2 g6_g10_2 k6_g10_3 g6_g10_3 e6_0 B6 z6; rintro w' ⟨h0, h1, h2, h3, h4, h5, h6, h7, h8, h9, h10, h11, h12, h13, h14, h15, h16, h17, h18, h19, h20, h21, h22, h23, h24, h25, h26, h27, h28, h29, h30, h31, h32, h33, h34, h35, h36, h37, h38, h39, h40, h41, h42, h43, h44, h45, h46, h47, h48, h49, h50, h51, h52, h53, h54, h55, h56, h57, h58, h59, h60, h61, h62, h63, h64⟩; exact (cnk _).mono (by rintro e w2 ⟨rfl, rfl⟩; exact ⟨rfl, Below.refl _ _⟩)
    refine obe_val (by rfl) ?_ ?_
    · clear k6_b2_0 g6_b2_0 k6_b2_1 g6_b2_1 k6_b2_2 g6_b2_2 k6_b2_3 g6_b2_3 k6_b3_0 g6_b3_0 k6_b3_1 g6_b3_1 k6_b3_2 g6_b3_2 k6_b3_3 g6_b3_3 k6_g5_0 g6_g5_0 k6_g5_1 g6_g5_1 k6_g5_2 g6_g5_2 k6_g5_3 g6_g5_3 k6_g6_0 g6_g6_0 k6_g6_1 g6_g6_1 k6_g6_2 g6_g6_2 k6_g6_3 g6_g6_3 k6_g7_0 g6_g7_0 k6_g7_1 g6_g7_1 k6_g7_2 g6_g7_2 k6_g7_3 g6_g7_3 k6_g8_0 g6_g8_0 k6_g8_1 g6_g8_1 k6_g8_2 g6_g8_2 k6_g8_3 g6_g8_3 k6_g9_0 g6_g9_0 k6_g9_1 g6_g9_1 k6_g9_2 g6_g9_2 k6_g9_3 g6_g9_3 k6_g10_0 g6_g10_0 k6_g10_1 g6_g10_1 k6_g10_2 g6_g10_2 k6_g10_3 g6_g10_3 e6_0 B6 z6; intro f hf; have u66 : f 66 = (.bool true) := (by rw [← hf]; rfl); have u71 : f 71 = (.bool true) := (by rw [← hf]; rfl); clear hf; rintro w' ⟨h0, h1, h2, h3, h4, h5, h6, h7, h8, h9, h10, h11, h12, h13, h14, h15, h16, h17, h18, h19, h20, h21, h22, h23, h24, h25, h26, h27, h28, h29, h30, h31, h32, h33, h34, h35, h36, h37, h38, h39, h40, h41, h42, h43, h44, h45, h46, h47, h48, h49, h50, h51, h52, h53, h54, h55, h56, h57, h58, h59, h60, h61, h62, h63, h64⟩; go_simp; try exact IntWalk.i64_in _ (by omega)
    refine obe_val (by rfl) ?_ ?_
    · clear k6_b2_0 g6_b2_0 k6_b2_1 g6_b2_1 k6_b2_2 g6_b2_2 k6_b2_3 g6_b2_3 k6_b3_0 g6_b3_0 k6_b3_1 g6_b3_1 k6_b3_2 g6_b3_2 k6_b3_3 g6_b3_3 k6_g5_0 g6_g5_0 k6_g5_1 g6_g5_1 k6_g5_2 g6_g5_2 k6_g5_3 g6_g5_3 k6_g6_0 g6_g6_0 k6_g6_1 g6_g6_1 k6_g6_2 g6_g6_2 k6_g6_3 g6_g6_3 k6_g7_0 g6_g7_0 k6_g7_1 g6_g7_1 k6_g7_2 g6_g7_2 k6_g7_3 g6_g7_3 k6_g8_0 g6_g8_0 k6_g8_1 g6_g8_1 k6_g8_2 g6_g8_2 k6_g8_3 g6_g8_3 k6_g9_0 g6_g9_0 k6_g9_1 g6_g9_1 k6_g9_2 g6_g9_2 k6_g9_3 g6_g9_3 k6_g10_0 g6_g10_0 k6_g10_1 g6_g10_1 k6_g10_2 g6_g10_2 k6_g10_3 g6_g10_3 e6_0 B6 z6; intro f hf; have u72 : f 72 = (.bool true) := (by rw [← hf]; rfl); clear hf; rintro w' ⟨h0, h1, h2, h3, h4, h5, h6, h7, h8, h9, h10, h11, h12, h13, h14, h15, h16, h17, h18, h19, h20, h21, h22, h23, h24, h25, h26, h27, h28, h29, h30, h31, h32, h33, h34, h35, h36, h37, h38, h39, h40, h41, h42, h43, h44, h45, h46, h47, h48, h49, h50, h51, h52, h53, h54, h55, h56, h57, h58, h59, h60, h61, h62, h63, h64⟩; go_simp; try exact IntWalk.i64_in _ (by omega)
    refine obe_call (by rfl) ?_ ?_ ?_
    · clear k6_b2_0 g6_b2_0 k6_b2_1 g6_b2_1 k6_b2_2 g6_b2_2 k6_b2_3 g6_b2_3 k6_b3_0 g6_b3_0 k6_b3_1 g6_b3_1 k6_b3_2 g6_b3_2 k6_b3_3 g6_b3_3 k6_g5_0 g6_g5_0 k6_g5_1 g6_g5_1 k6_g5_2 g6_g5_2 k6_g5_3 g6_g5_3 k6_g6_0 g6_g6_0 k6_g6_1 g6_g6_1 k6_g6_2 g6_g6_2 k6_g6_3 g6_g6_3 k6_g7_0 g6_g7_0 k6_g7_1 g6_g7_1 k6_g7_2 g6_g7_2 k6_g7_3 g6_g7_3 k6_g8_0 g6_g8_0 k6_g8_1 g6_g8_1 k6_g8_2 g6_g8_2 k6_g8_3 g6_g8_3 k6_g9_0 g6_g9_0 k6_g9_1 g6_g9_1 k6_g9_2 g6_g9_2 k6_g9_3 g6_g9_3 k6_g10_0 g6_g10_0 k6_g10_1 g6_g10_1 k6_g10_2 g6_g10_2 k6_g10_3 g6_g10_3 e6_0 B6 z6; intro f hf; clear hf; intro w' _; simp only [execOp, resolve, invoke, rhoF_tmp, rhoF_func, rhoF_const, List.map_toArray, List.map_cons, List.map_nil]; go_simp
    · clear k6_b2_0 g6_b2_0 k6_b2_1 g6_b2_1 k6_b2_2 g6_b2_2 k6_b2_3 g6_b2_3 k6_b3_0 g6_b3_0 k6_b3_1 g6_b3_1 k6_b3_2 g6_b3_2 k6_b3_3 g6_b3_3 k6_g5_0 g6_g5_0 k6_g5_1 g6_g5_1 k6_g5_2 g6_g5_2 k6_g5_3 g6_g5_3 k6_g6_0 g6_g6_0 k6_g6_1 g6_g6_1 k6_g6_2 g6_g6_2 k6_g6_3 g6_g6_3 k6_g7_0 g6_g7_0 k6_g7_1 g6_g7_1 k6_g7_2 g6_g7_2 k6_g7_3 g6_g7_3 k6_g8_0 g6_g8_0 k6_g8_1 g6_g8_1 k6_g8_2 g6_g8_2 k6_g8_3 g6_g8_3 k6_g9_0 g6_g9_0 k6_g9_1 g6_g9_1 k6_g9_2 g6_g9_2 k6_g9_3 g6_g9_3 k6_g10_0 g6_g10_0 k6_g10_1 g6_g10_1 k6_g10_2 g6_g10_2 k6_g10_3 g6_g10_3 e6_0 B6 z6; rintro w' ⟨h0, h1, h2, h3, h4, h5, h6, h7, h8, h9, h10, h11, h12, h13, h14, h15, h16, h17, h18, h19, h20, h21, h22, h23, h24, h25, h26, h27, h28, h29, h30, h31, h32, h33, h34, h35, h36, h37, h38, h39, h40, h41, h42, h43, h44, h45, h46, h47, h48, h49, h50, h51, h52, h53, h54, h55, h56, h57, h58, h59, h60, h61, h62, h63, h64⟩; exact bex_any _ (by assumption)
    refine obe_val (by rfl) ?_ ?_
    · clear k6_b2_0 g6_b2_0 k6_b2_1 g6_b2_1 k6_b2_2 g6_b2_2 k6_b2_3 g6_b2_3 k6_b3_0 g6_b3_0 k6_b3_1 g6_b3_1 k6_b3_2 g6_b3_2 k6_b3_3 g6_b3_3 k6_g5_0 g6_g5_0 k6_g5_1 g6_g5_1 k6_g5_2 g6_g5_2 k6_g5_3 g6_g5_3 k6_g6_0 g6_g6_0 k6_g6_1 g6_g6_1 k6_g6_2 g6_g6_2 k6_g6_3 g6_g6_3 k6_g7_0 g6_g7_0 k6_g7_1 g6_g7_1 k6_g7_2 g6_g7_2 k6_g7_3 g6_g7_3 k6_g8_0 g6_g8_0 k6_g8_1 g6_g8_1 k6_g8_2 g6_g8_2 k6_g8_3 g6_g8_3 k6_g9_0 g6_g9_0 k6_g9_1 g6_g9_1 k6_g9_2 g6_g9_2 k6_g9_3 g6_g9_3 k6_g10_0 g6_g10_0 k6_g10_1 g6_g10_1 k6_g10_2 g6_g10_2 k6_g10_3 g6_g10_3 e6_0 B6 z6; intro f hf; have u73 : f 73 = (.bool true) := (by rw [← hf]; rfl); have u74 : f 74 = (.bool true) := (by rw [← hf]; rfl); clear hf; rintro w' ⟨h0, h1, h2, h3, h4, h5, h6, h7, h8, h9, h10, h11, h12, h13, h14, h15, h16, h17, h18, h19, h20, h21, h22, h23, h24, h25, h26, h27, h28, h29, h30, h31, h32, h33, h34, h35, h36, h37, h38, h39, h40, h41, h42, h43, h44, h45, h46, h47, h48, h49, h50, h51, h52, h53, h54, h55, h56, h57, h58, h59, h60, h61, h62, h63, h64⟩; go_simp; try exact IntWalk.i64_in _ (by omega)
    refine obe_val (by rfl) ?_ ?_
    · clear k6_b2_0 g6_b2_0 k6_b2_1 g6_b2_1 k6_b2_2 g6_b2_2 k6_b2_3 g6_b2_3 k6_b3_0 g6_b3_0 k6_b3_1 g6_b3_1 k6_b3_2 g6_b3_2 k6_b3_3 g6_b3_3 k6_g5_0 g6_g5_0 k6_g5_1 g6_g5_1 k6_g5_2 g6_g5_2 k6_g5_3 g6_g5_3 k6_g6_0 g6_g6_0 k6_g6_1 g6_g6_1 k6_g6_2 g6_g6_2 k6_g6_3 g6_g6_3 k6_g7_0 g6_g7_0 k6_g7_1 g6_g7_1 k6_g7_2 g6_g7_2 k6_g7_3 g6_g7_3 k6_g8_0 g6_g8_0 k6_g8_1 g6_g8_1 k6_g8_2 g6_g8_2 k6_g8_3 g6_g8_3 k6_g9_0 g6_g9_0 k6_g9_1 g6_g9_1 k6_g9_2 g6_g9_2 k6_g9_3 g6_g9_3 k6_g10_0 g6_g10_0 k6_g10_1 g6_g10_1 k6_g10_2 g6_g10_2 k6_g10_3 g6_g10_3 e6_0 B6 z6; intro f hf; have u75 : f 75 = (.bool true) := (by rw [← hf]; rfl); clear hf; rintro w' ⟨h0, h1, h2, h3, h4, h5, h6, h7, h8, h9, h10, h11, h12, h13, h14, h15, h16, h17, h18, h19, h20, h21, h22, h23, h24, h25, h26, h27, h28, h29, h30, h31, h32, h33, h34, h35, h36, h37, h38, h39, h40, h41, h42, h43, h44, h45, h46, h47, h48, h49, h50, h51, h52, h53, h54, h55, h56, h57, h58, h59, h60, h61, h62, h63, h64⟩; go_simp; try exact IntWalk.i64_in _ (by omega)
    refine obe_nil ?_
    rintro w7 ⟨h0, h1, h2, h3, h4, h5, h6, h7, h8, h9, h10, h11, h12, h13, h14, h15, h16, h17, h18, h19, h20, h21, h22, h23, h24, h25, h26, h27, h28, h29, h30, h31, h32, h33, h34, h35, h36, h37, h38, h39, h40, h41, h42, h43, h44, h45, h46, h47, h48, h49, h50, h51, h52, h53, h54, h55, h56, h57, h58, h59, h60, h61, h62, h63, h64⟩ hb7 hF
    (try simp only [List.nil_append, List.append_nil, List.cons_append] at hF)
    simp only [puts, putD, Act.put, List.setIfInBounds_toArray, List.set_cons_zero, List.set_cons_succ]
    clear hF
    have k7_b2_0 := bcs hb7 k6_b2_0
    have g7_b2_0 := bfs hb7 k6_b2_0 g6_b2_0
    have k7_b2_1 := bcs hb7 k6_b2_1
    have g7_b2_1 := bfs hb7 k6_b2_1 g6_b2_1
    have k7_b2_2 := bcs hb7 k6_b2_2
    have g7_b2_2 := bfs hb7 k6_b2_2 g6_b2_2
    have k7_b2_3 := bcs hb7 k6_b2_3
    have g7_b2_3 := bfs hb7 k6_b2_3 g6_b2_3
    have k7_b3_0 := bcs hb7 k6_b3_0
    have g7_b3_0 := bfs hb7 k6_b3_0 g6_b3_0
    have k7_b3_1 := bcs hb7 k6_b3_1
    have g7_b3_1 := bfs hb7 k6_b3_1 g6_b3_1
    have k7_b3_2 := bcs hb7 k6_b3_2
    have g7_b3_2 := bfs hb7 k6_b3_2 g6_b3_2
    have k7_b3_3 := bcs hb7 k6_b3_3
    have g7_b3_3 := bfs hb7 k6_b3_3 g6_b3_3
    have k7_g5_0 := bcs hb7 k6_g5_0
    have g7_g5_0 := bfs hb7 k6_g5_0 g6_g5_0
    have k7_g5_1 := bcs hb7 k6_g5_1
    have g7_g5_1 := bfs hb7 k6_g5_1 g6_g5_1
    have k7_g5_2 := bcs hb7 k6_g5_2
    have g7_g5_2 := bfs hb7 k6_g5_2 g6_g5_2
    have k7_g5_3 := bcs hb7 k6_g5_3
    have g7_g5_3 := bfs hb7 k6_g5_3 g6_g5_3
    have k7_g6_0 := bcs hb7 k6_g6_0
    have g7_g6_0 := bfs hb7 k6_g6_0 g6_g6_0
    have k7_g6_1 := bcs hb7 k6_g6_1
    have g7_g6_1 := bfs hb7 k6_g6_1 g6_g6_1
    have k7_g6_2 := bcs hb7 k6_g6_2
    have g7_g6_2 := bfs hb7 k6_g6_2 g6_g6_2
    have k7_g6_3 := bcs hb7 k6_g6_3
    have g7_g6_3 := bfs hb7 k6_g6_3 g6_g6_3
    have k7_g7_0 := bcs hb7 k6_g7_0
    have g7_g7_0 := bfs hb7 k6_g7_0 g6_g7_0
    have k7_g7_1 := bcs hb7 k6_g7_1
    have g7_g7_1 := bfs hb7 k6_g7_1 g6_g7_1
    have k7_g7_2 := bcs hb7 k6_g7_2
    have g7_g7_2 := bfs hb7 k6_g7_2 g6_g7_2
    have k7_g7_3 := bcs hb7 k6_g7_3
    have g7_g7_3 := bfs hb7 k6_g7_3 g6_g7_3
    have k7_g8_0 := bcs hb7 k6_g8_0
    have g7_g8_0 := bfs hb7 k6_g8_0 g6_g8_0
    have k7_g8_1 := bcs hb7 k6_g8_1
    have g7_g8_1 := bfs hb7 k6_g8_1 g6_g8_1
    have k7_g8_2 := bcs hb7 k6_g8_2
    have g7_g8_2 := bfs hb7 k6_g8_2 g6_g8_2
    have k7_g8_3 := bcs hb7 k6_g8_3
    have g7_g8_3 := bfs hb7 k6_g8_3 g6_g8_3
    have k7_g9_0 := bcs hb7 k6_g9_0
    have g7_g9_0 := bfs hb7 k6_g9_0 g6_g9_0
    have k7_g9_1 := bcs hb7 k6_g9_1
    have g7_g9_1 := bfs hb7 k6_g9_1 g6_g9_1
    have k7_g9_2 := bcs hb7 k6_g9_2
    have g7_g9_2 := bfs hb7 k6_g9_2 g6_g9_2
    have k7_g9_3 := bcs hb7 k6_g9_3
    have g7_g9_3 := bfs hb7 k6_g9_3 g6_g9_3
    have k7_g10_0 := bcs hb7 k6_g10_0
    have g7_g10_0 := bfs hb7 k6_g10_0 g6_g10_0
    have k7_g10_1 := bcs hb7 k6_g10_1
    have g7_g10_1 := bfs hb7 k6_g10_1 g6_g10_1
    have k7_g10_2 := bcs hb7 k6_g10_2
    have g7_g10_2 := bfs hb7 k6_g10_2 g6_g10_2
    have k7_g10_3 := bcs hb7 k6_g10_3
    have g7_g10_3 := bfs hb7 k6_g10_3 g6_g10_3
    clear h0 h1 h2 h3 h4 h5 h6 h7 h8 h9 h10 h11 h12 h13 h14 h15 h16 h17 h18 h19 h20 h21 h22 h23 h24 h25 h26 h27 h28 h29 h30 h31 h32 h33 h34 h35 h36 h37 h38 h39 h40 h41 h42 h43 h44 h45 h46 h47 h48 h49 h50 h51 h52 h53 h54 h55 h56 h57 h58 h59 h60 h61 h62 h63 h64
    have B7 := bel_step B6 hb7
    have z7 := Nat.le_trans z6 hb7.size
    have e7_0 := Nm.below hN B7
    clear hb7
    (try clear B6)
    (try clear z6)
    (try clear k6_b2_0)
    (try clear g6_b2_0)
    (try clear k6_b2_1)
    (try clear g6_b2_1)
    (try clear k6_b2_2)
    (try clear g6_b2_2)
    (try clear k6_b2_3)
    (try clear g6_b2_3)
    (try clear k6_b3_0)
    (try clear g6_b3_0)
    (try clear k6_b3_1)
    (try clear g6_b3_1)
    (try clear k6_b3_2)
    (try clear g6_b3_2)
    (try clear k6_b3_3)
    (try clear g6_b3_3)
    (try clear k6_g5_0)
    (try clear g6_g5_0)
    (try clear k6_g5_1)
    (try clear g6_g5_1)
    (try clear k6_g5_2)
    (try clear g6_g5_2)
    (try clear k6_g5_3)
    (try clear g6_g5_3)
    (try clear k6_g6_0)
    (try clear g6_g6_0)
    (try clear k6_g6_1)
    (try clear g6_g6_1)
    (try clear k6_g6_2)
    (try clear g6_g6_2)
    (try clear k6_g6_3)
    (try clear g6_g6_3)
    (try clear k6_g7_0)
    (try clear g6_g7_0)
    (try clear k6_g7_1)
    (try clear g6_g7_1)
    (try clear k6_g7_2)
    (try clear g6_g7_2)
    (try clear k6_g7_3)
    (try clear g6_g7_3)
    (try clear k6_g8_0)
    (try clear g6_g8_0)
    (try clear k6_g8_1)
    (try clear g6_g8_1)
    (try clear k6_g8_2)
    (try clear g6_g8_2)
    (try clear k6_g8_3)
    (try clear g6_g8_3)
    (try clear k6_g9_0)
    (try clear g6_g9_0)
    (try clear k6_g9_1)
    (try clear g6_g9_1)
    (try clear k6_g9_2)
    (try clear g6_g9_2)
    (try clear k6_g9_3)
    (try clear g6_g9_3)
    (try clear k6_g10_0)
    (try clear g6_g10_0)
    (try clear k6_g10_1)
    (try clear g6_g10_1)
    (try clear k6_g10_2)
    (try clear g6_g10_2)
    (try clear k6_g10_3)
    (try clear g6_g10_3)
    (try clear e6_0)
    (try clear q6_b2)
    (try clear x6_b2)
    (try clear y6_b2)
    (try clear q6_b3)
    (try clear x6_b3)
    (try clear y6_b3)
    (try clear q6_g5)
    (try clear x6_g5)
    (try clear y6_g5)
    (try clear q6_g6)
    (try clear x6_g6)
    (try clear y6_g6)
    (try clear q6_g7)
    (try clear x6_g7)
    (try clear y6_g7)
    (try clear q6_g8)
    (try clear x6_g8)
    (try clear y6_g8)
    (try clear q6_g9)
    (try clear x6_g9)
    (try clear y6_g9)
    (try clear q6_g10)
    (try clear x6_g10)
    (try clear y6_g10)
    have q7_b2 : w.heap.size < w7.heap.size := qlt k7_b2_0
    have x7_b2 : ¬ w.heap.size = w7.heap.size := qne k7_b2_0
    have y7_b2 : ¬ w7.heap.size = w.heap.size := fun h => qne k7_b2_0 h.symm
    have q7_b3 : w.heap.size + 1 < w7.heap.size := qlt k7_b3_0
    have x7_b3 : ¬ w.heap.size + 1 = w7.heap.size := qne k7_b3_0
    have y7_b3 : ¬ w7.heap.size = w.heap.size + 1 := fun h => qne k7_b3_0 h.symm
    have q7_g5 : g5 < w7.heap.size := qlt k7_g5_0
    have x7_g5 : ¬ g5 = w7.heap.size := qne k7_g5_0
    have y7_g5 : ¬ w7.heap.size = g5 := fun h => qne k7_g5_0 h.symm
    have q7_g6 : g6 < w7.heap.size := qlt k7_g6_0
    have x7_g6 : ¬ g6 = w7.heap.size := qne k7_g6_0
    have y7_g6 : ¬ w7.heap.size = g6 := fun h => qne k7_g6_0 h.symm
    have q7_g7 : g7 < w7.heap.size := qlt k7_g7_0
    have x7_g7 : ¬ g7 = w7.heap.size := qne k7_g7_0
    have y7_g7 : ¬ w7.heap.size = g7 := fun h => qne k7_g7_0 h.symm
    have q7_g8 : g8 < w7.heap.size := qlt k7_g8_0
    have x7_g8 : ¬ g8 = w7.heap.size := qne k7_g8_0
    have y7_g8 : ¬ w7.heap.size = g8 := fun h => qne k7_g8_0 h.symm
    have q7_g9 : g9 < w7.heap.size := qlt k7_g9_0
    have x7_g9 : ¬ g9 = w7.heap.size := qne k7_g9_0
    have y7_g9 : ¬ w7.heap.size = g9 := fun h => qne k7_g9_0 h.symm
    have q7_g10 : g10 < w7.heap.size := qlt k7_g10_0
    have x7_g10 : ¬ g10 = w7.heap.size := qne k7_g10_0
    have y7_g10 : ¬ w7.heap.size = g10 := fun h => qne k7_g10_0 h.symm
    unfold wpList
    go_wp2
    go_ret
    refine ⟨rfl, ?_⟩
    repeat (first | with_reducible exact Below.refl _ _ | with_reducible exact B7 | with_reducible apply below_drewN | with_reducible apply Below.drew | (with_reducible refine Below.alloc ?_ (by first | (simp; done) | (simp; omega) | omega) _) | (with_reducible refine Below.setCell ?_ (by first | (simp; done) | (simp; omega) | omega) _))
end Go.Proofs.YtdhajiaepaamgaaDoor
