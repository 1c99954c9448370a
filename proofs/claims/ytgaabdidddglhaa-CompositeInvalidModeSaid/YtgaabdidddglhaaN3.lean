import Derived.Test.YtgaabdidddglhaaN1
import Derived.Test.YtgaabdidddglhaaMixNum
import Derived.WalkKit
import Derived.WalkSpells
import Derived.WalkLawsBesides
import Derived.Lib.Hide
import Derived.Below
import Derived.Deep.QuietTactic
import Derived.BigQuiet
import Derived.Deep.RegionHeld3
import Derived.Deep.DrawnRows
import Derived.Deep.DeepFit
import Derived.IntWalk
namespace Go.Proofs.Ytgaabdidddglhaa
open Go.RowKit
set_option linter.unusedVariables false
set_option linter.unusedSimpArgs false
attribute [local go_sem ↓] Go.wp_at_zero Go.wp_at_succ
attribute [local go_sem] rhoF_tmp rhoF_const rhoF_global rhoF_func

set_option maxHeartbeats 8000000 in
theorem term3_any (x0 x1 x2 t l a c lo hi lm m k : Int) (a0 : 0 ≤ a) (a1 : a ≤ 65025) (x00 : 0 ≤ x0) (x01 : x0 ≤ a) (x10 : 0 ≤ x1) (x11 : x1 ≤ a) (x20 : 0 ≤ x2) (x21 : x2 ≤ a) (t0 : 0 ≤ t) (t1 : t ≤ a) (l0 : 0 ≤ l) (l1 : l ≤ 100 * a) (hlo : lo3 x0 x1 x2 = lo) (hhi : hi3 x0 x1 x2 = hi) (hlm : lm3 x0 x1 x2 = lm) (hm : hi - lo = m) (hk : lm - 100 * lo = k) (c0 : lo ≤ c) (c1 : c ≤ hi) (w : World) :
    Calls Try.prog 49 #[.agg #[.int .i64 x0, .int .i64 x1, .int .i64 x2, .int .i64 t, .int .i64 l, .int .i64 a], .int .i64 c] w fun e w' => e = .returned (.tuple #[.int .i64 (frN c lo hi m k t l a), .int .i64 (frD m k t l a)]) ∧ Below w.heap.size w w' := by
  obtain ⟨b0, b1⟩ := lm3_bd x0 x1 x2
  rw [hlo, hlm] at b0
  rw [hhi, hlm] at b1
  have cmin := fun p w h0 h1 h2 => slMin_any p x0 x1 x2 w h0 h1 h2
  have cmax := fun p w h0 h1 h2 => slMax_any p x0 x1 x2 w h0 h1 h2
  have cl := fun w => lum_any x0 x1 x2 a a0 a1 x00 x01 x10 x11 x20 x21 w
  have lob : 0 ≤ lo := by rw [← hlo]; unfold lo3; omega
  have hib : hi ≤ a := by rw [← hhi]; unfold hi3; omega
  have lohi : lo ≤ hi := by omega
  unfold lo3 at hlo
  unfold hi3 at hhi
  unfold lm3 at hlm
  rw [hlo] at cmin
  rw [hhi] at cmax
  rw [hlm] at cl
  clear hlo hhi hlm
  have mb : 0 ≤ m ∧ m ≤ 65025 := by omega
  have kb : 0 ≤ k ∧ k ≤ 6502500 := by omega
  obtain ⟨lm0, lm1⟩ := mulB l0 (show l ≤ 6502500 by omega) mb.1 mb.2
  obtain ⟨tk0, tk1⟩ := mulB t0 (show t ≤ 65025 by omega) kb.1 kb.2
  obtain ⟨mt0, mt1⟩ := mulB (show 0 ≤ 100 * m by omega) (show 100 * m ≤ 6502500 by omega) t0 (show t ≤ 65025 by omega)
  obtain ⟨am0, am1⟩ := mulB (show 0 ≤ 100 * a by omega) (show 100 * a ≤ 6502500 by omega) mb.1 mb.2
  obtain ⟨lc0, lc1⟩ := mulB l0 (show l ≤ 6502500 by omega) (show 0 ≤ c - lo by omega) (show c - lo ≤ 65025 by omega)
  obtain ⟨ct0, ct1⟩ := mulB (show 0 ≤ 100 * (c - lo) by omega) (show 100 * (c - lo) ≤ 6502500 by omega) t0 (show t ≤ 65025 by omega)
  obtain ⟨ah0, ah1⟩ := mulB (show 0 ≤ 100 * a - l by omega) (show 100 * a - l ≤ 6502500 by omega) (show 0 ≤ hi - c by omega) (show hi - c ≤ 65025 by omega)
  obtain ⟨q, hq⟩ : ∃ x, 100 * hi - lm = x := ⟨_, rfl⟩
  have hqk : 100 * m - k = q := by omega
  obtain ⟨aq0, aq1⟩ := mulB a0 a1 (show 0 ≤ q by omega) (show q ≤ 6502500 by omega)
  unfold frN frD
  by_cases h1 : m = 0
  · simp only [if_pos h1]
    have hh : (m == 0) = true := by simpa using h1
    go_enter Try.func49, Try.ntmps49
    go_wp2
    refine wp_region_env (fun w' => w'.cell? ⟨w.heap.size, 0, none⟩ = some (.int .i64 x0) ∧ w'.frozen? ⟨w.heap.size, 0, none⟩ = false ∧ w'.cell? ⟨w.heap.size, 1, none⟩ = some (.int .i64 x1) ∧ w'.frozen? ⟨w.heap.size, 1, none⟩ = false ∧ w'.cell? ⟨w.heap.size, 2, none⟩ = some (.int .i64 x2) ∧ w'.frozen? ⟨w.heap.size, 2, none⟩ = false ∧ w'.cell? ⟨w.heap.size, 3, none⟩ = some (.int .i64 t) ∧ w'.frozen? ⟨w.heap.size, 3, none⟩ = false ∧ w'.cell? ⟨w.heap.size, 4, none⟩ = some (.int .i64 l) ∧ w'.frozen? ⟨w.heap.size, 4, none⟩ = false ∧ w'.cell? ⟨w.heap.size, 5, none⟩ = some (.int .i64 a) ∧ w'.frozen? ⟨w.heap.size, 5, none⟩ = false) (fun W => W.cell? ⟨w.heap.size, 0, none⟩ = some (.int .i64 x0) ∧ W.frozen? ⟨w.heap.size, 0, none⟩ = false ∧ W.cell? ⟨w.heap.size, 1, none⟩ = some (.int .i64 x1) ∧ W.frozen? ⟨w.heap.size, 1, none⟩ = false ∧ W.cell? ⟨w.heap.size, 2, none⟩ = some (.int .i64 x2) ∧ W.frozen? ⟨w.heap.size, 2, none⟩ = false ∧ W.cell? ⟨w.heap.size, 3, none⟩ = some (.int .i64 t) ∧ W.frozen? ⟨w.heap.size, 3, none⟩ = false ∧ W.cell? ⟨w.heap.size, 4, none⟩ = some (.int .i64 l) ∧ W.frozen? ⟨w.heap.size, 4, none⟩ = false ∧ W.cell? ⟨w.heap.size, 5, none⟩ = some (.int .i64 a) ∧ W.frozen? ⟨w.heap.size, 5, none⟩ = false ∧ Below w.heap.size w W ∧ w.heap.size + 1 ≤ W.heap.size) 8 106 [.val (.pointer (some ⟨w.heap.size, 0, none⟩)), .val (.slice (some ⟨w.heap.size, 0, none⟩) 3 3), .call 59 #[.slice (some ⟨w.heap.size, 0, none⟩) 3 3] (.int .i64 lo), .val (.pointer (some ⟨w.heap.size, 0, none⟩)), .val (.slice (some ⟨w.heap.size, 0, none⟩) 3 3), .call 60 #[.slice (some ⟨w.heap.size, 0, none⟩) 3 3] (.int .i64 hi), .val (.int .i64 lo), .val (.int .i64 hi)] (by kernel_rfl) (by kernel_rfl) rfl (by kernel_rfl) (by rintro w1 w2 ⟨h0, h1, h2, h3, h4, h5, h6, h7, h8, h9, h10, h11⟩ hb; exact ⟨bcs hb h0, bfs hb h0 h1, bcs hb h2, bfs hb h2 h3, bcs hb h4, bfs hb h4 h5, bcs hb h6, bfs hb h6 h7, bcs hb h8, bfs hb h8 h9, bcs hb h10, bfs hb h10 h11⟩) ⟨by first | with_reducible assumption | go_simp, by first | with_reducible assumption | go_simp, by first | with_reducible assumption | go_simp, by first | with_reducible assumption | go_simp, by first | with_reducible assumption | go_simp, by first | with_reducible assumption | go_simp, by first | with_reducible assumption | go_simp, by first | with_reducible assumption | go_simp, by first | with_reducible assumption | go_simp, by first | with_reducible assumption | go_simp, by first | with_reducible assumption | go_simp, by first | with_reducible assumption | go_simp, by repeat (first | with_reducible exact Below.refl _ _ | fail | with_reducible apply below_drewN | with_reducible apply Below.drew | (with_reducible refine Below.alloc ?_ (by first | (simp; done) | (simp; omega) | omega) _) | (with_reducible refine Below.setCell ?_ (by first | (simp; done) | (simp; omega) | omega) _)), by first | with_reducible assumption | (simp; done) | (simp; omega)⟩ ?_ ?_
    · rintro W ⟨k1_b2_0, g1_b2_0, k1_b2_1, g1_b2_1, k1_b2_2, g1_b2_2, k1_b2_3, g1_b2_3, k1_b2_4, g1_b2_4, k1_b2_5, g1_b2_5, B1, z1⟩; exact ⟨k1_b2_0, g1_b2_0, k1_b2_1, g1_b2_1, k1_b2_2, g1_b2_2, k1_b2_3, g1_b2_3, k1_b2_4, g1_b2_4, k1_b2_5, g1_b2_5⟩
    rintro w1 ⟨k1_b2_0, g1_b2_0, k1_b2_1, g1_b2_1, k1_b2_2, g1_b2_2, k1_b2_3, g1_b2_3, k1_b2_4, g1_b2_4, k1_b2_5, g1_b2_5, B1, z1⟩ gg
    simp only [List.take_succ_cons, List.take_zero, List.drop_succ_cons, List.drop_zero, List.cons_append, List.nil_append, List.append_nil]
    refine obe_val (by rfl) ?_ ?_
    · clear k1_b2_0 g1_b2_0 k1_b2_1 g1_b2_1 k1_b2_2 g1_b2_2 k1_b2_3 g1_b2_3 k1_b2_4 g1_b2_4 k1_b2_5 g1_b2_5 B1 z1; intro f hf; have u2 : f 2 = (.pointer (some ⟨w.heap.size, 0, none⟩)) := (by rw [← hf]; rfl); clear hf; rintro w' ⟨h0, h1, h2, h3, h4, h5, h6, h7, h8, h9, h10, h11⟩; go_simp; try exact IntWalk.i64_in _ (by omega)
    refine obe_val (by rfl) ?_ ?_
    · clear k1_b2_0 g1_b2_0 k1_b2_1 g1_b2_1 k1_b2_2 g1_b2_2 k1_b2_3 g1_b2_3 k1_b2_4 g1_b2_4 k1_b2_5 g1_b2_5 B1 z1; intro f hf; have u14 : f 14 = (.pointer (some ⟨w.heap.size, 0, none⟩)) := (by rw [← hf]; rfl); clear hf; rintro w' ⟨h0, h1, h2, h3, h4, h5, h6, h7, h8, h9, h10, h11⟩; go_simp; try exact IntWalk.i64_in _ (by omega)
    refine obe_call (by rfl) ?_ ?_ ?_
    · clear k1_b2_0 g1_b2_0 k1_b2_1 g1_b2_1 k1_b2_2 g1_b2_2 k1_b2_3 g1_b2_3 k1_b2_4 g1_b2_4 k1_b2_5 g1_b2_5 B1 z1; intro f hf; have u15 : f 15 = (.slice (some ⟨w.heap.size, 0, none⟩) 3 3) := (by rw [← hf]; rfl); clear hf; intro w' _; simp only [execOp, resolve, invoke, rhoF_tmp, rhoF_func, rhoF_const, u15, List.map_toArray, List.map_cons, List.map_nil]; go_simp
    · clear k1_b2_0 g1_b2_0 k1_b2_1 g1_b2_1 k1_b2_2 g1_b2_2 k1_b2_3 g1_b2_3 k1_b2_4 g1_b2_4 k1_b2_5 g1_b2_5 B1 z1; rintro w' ⟨h0, h1, h2, h3, h4, h5, h6, h7, h8, h9, h10, h11⟩; exact (cmin _ _ (by assumption) (by assumption) (by assumption)).mono (by rintro e w2 ⟨rfl, rfl⟩; exact ⟨rfl, Below.refl _ _⟩)
    refine obe_val (by rfl) ?_ ?_
    · clear k1_b2_0 g1_b2_0 k1_b2_1 g1_b2_1 k1_b2_2 g1_b2_2 k1_b2_3 g1_b2_3 k1_b2_4 g1_b2_4 k1_b2_5 g1_b2_5 B1 z1; intro f hf; have u2 : f 2 = (.pointer (some ⟨w.heap.size, 0, none⟩)) := (by rw [← hf]; rfl); clear hf; rintro w' ⟨h0, h1, h2, h3, h4, h5, h6, h7, h8, h9, h10, h11⟩; go_simp; try exact IntWalk.i64_in _ (by omega)
    refine obe_val (by rfl) ?_ ?_
    · clear k1_b2_0 g1_b2_0 k1_b2_1 g1_b2_1 k1_b2_2 g1_b2_2 k1_b2_3 g1_b2_3 k1_b2_4 g1_b2_4 k1_b2_5 g1_b2_5 B1 z1; intro f hf; have u17 : f 17 = (.pointer (some ⟨w.heap.size, 0, none⟩)) := (by rw [← hf]; rfl); clear hf; rintro w' ⟨h0, h1, h2, h3, h4, h5, h6, h7, h8, h9, h10, h11⟩; go_simp; try exact IntWalk.i64_in _ (by omega)
    refine obe_call (by rfl) ?_ ?_ ?_
    · clear k1_b2_0 g1_b2_0 k1_b2_1 g1_b2_1 k1_b2_2 g1_b2_2 k1_b2_3 g1_b2_3 k1_b2_4 g1_b2_4 k1_b2_5 g1_b2_5 B1 z1; intro f hf; have u18 : f 18 = (.slice (some ⟨w.heap.size, 0, none⟩) 3 3) := (by rw [← hf]; rfl); clear hf; intro w' _; simp only [execOp, resolve, invoke, rhoF_tmp, rhoF_func, rhoF_const, u18, List.map_toArray, List.map_cons, List.map_nil]; go_simp
    · clear k1_b2_0 g1_b2_0 k1_b2_1 g1_b2_1 k1_b2_2 g1_b2_2 k1_b2_3 g1_b2_3 k1_b2_4 g1_b2_4 k1_b2_5 g1_b2_5 B1 z1; rintro w' ⟨h0, h1, h2, h3, h4, h5, h6, h7, h8, h9, h10, h11⟩; exact (cmax _ _ (by assumption) (by assumption) (by assumption)).mono (by rintro e w2 ⟨rfl, rfl⟩; exact ⟨rfl, Below.refl _ _⟩)
    refine obe_val (by rfl) ?_ ?_
    · clear k1_b2_0 g1_b2_0 k1_b2_1 g1_b2_1 k1_b2_2 g1_b2_2 k1_b2_3 g1_b2_3 k1_b2_4 g1_b2_4 k1_b2_5 g1_b2_5 B1 z1; intro f hf; have u16 : f 16 = (.int .i64 lo) := (by rw [← hf]; rfl); clear hf; rintro w' ⟨h0, h1, h2, h3, h4, h5, h6, h7, h8, h9, h10, h11⟩; go_simp; try exact IntWalk.i64_in _ (by omega)
    refine obe_val (by rfl) ?_ ?_
    · clear k1_b2_0 g1_b2_0 k1_b2_1 g1_b2_1 k1_b2_2 g1_b2_2 k1_b2_3 g1_b2_3 k1_b2_4 g1_b2_4 k1_b2_5 g1_b2_5 B1 z1; intro f hf; have u19 : f 19 = (.int .i64 hi) := (by rw [← hf]; rfl); clear hf; rintro w' ⟨h0, h1, h2, h3, h4, h5, h6, h7, h8, h9, h10, h11⟩; go_simp; try exact IntWalk.i64_in _ (by omega)
    refine obe_nil ?_
    rintro w2 ⟨h0, h1, h2, h3, h4, h5, h6, h7, h8, h9, h10, h11⟩ hb2 hF
    (try simp only [List.nil_append, List.append_nil, List.cons_append] at hF)
    simp only [puts, putD, Act.put, List.setIfInBounds_toArray, List.set_cons_zero, List.set_cons_succ]
    clear hF
    have k2_b2_0 := bcs hb2 k1_b2_0
    have g2_b2_0 := bfs hb2 k1_b2_0 g1_b2_0
    have k2_b2_1 := bcs hb2 k1_b2_1
    have g2_b2_1 := bfs hb2 k1_b2_1 g1_b2_1
    have k2_b2_2 := bcs hb2 k1_b2_2
    have g2_b2_2 := bfs hb2 k1_b2_2 g1_b2_2
    have k2_b2_3 := bcs hb2 k1_b2_3
    have g2_b2_3 := bfs hb2 k1_b2_3 g1_b2_3
    have k2_b2_4 := bcs hb2 k1_b2_4
    have g2_b2_4 := bfs hb2 k1_b2_4 g1_b2_4
    have k2_b2_5 := bcs hb2 k1_b2_5
    have g2_b2_5 := bfs hb2 k1_b2_5 g1_b2_5
    clear h0 h1 h2 h3 h4 h5 h6 h7 h8 h9 h10 h11
    have B2 := bel_step B1 hb2
    have z2 := Nat.le_trans z1 hb2.size
    clear hb2
    (try clear B1)
    (try clear z1)
    (try clear k1_b2_0)
    (try clear g1_b2_0)
    (try clear k1_b2_1)
    (try clear g1_b2_1)
    (try clear k1_b2_2)
    (try clear g1_b2_2)
    (try clear k1_b2_3)
    (try clear g1_b2_3)
    (try clear k1_b2_4)
    (try clear g1_b2_4)
    (try clear k1_b2_5)
    (try clear g1_b2_5)
    (try clear q1_b2)
    (try clear x1_b2)
    (try clear y1_b2)
    have q2_b2 : w.heap.size < w2.heap.size := qlt k2_b2_0
    have x2_b2 : ¬ w.heap.size = w2.heap.size := qne k2_b2_0
    have y2_b2 : ¬ w2.heap.size = w.heap.size := fun h => qne k2_b2_0 h.symm
    unfold wpList
    go_wp2
    refine wp_region_env (fun w' => w'.cell? ⟨w.heap.size, 0, none⟩ = some (.int .i64 x0) ∧ w'.frozen? ⟨w.heap.size, 0, none⟩ = false ∧ w'.cell? ⟨w.heap.size, 1, none⟩ = some (.int .i64 x1) ∧ w'.frozen? ⟨w.heap.size, 1, none⟩ = false ∧ w'.cell? ⟨w.heap.size, 2, none⟩ = some (.int .i64 x2) ∧ w'.frozen? ⟨w.heap.size, 2, none⟩ = false ∧ w'.cell? ⟨w.heap.size, 3, none⟩ = some (.int .i64 t) ∧ w'.frozen? ⟨w.heap.size, 3, none⟩ = false ∧ w'.cell? ⟨w.heap.size, 4, none⟩ = some (.int .i64 l) ∧ w'.frozen? ⟨w.heap.size, 4, none⟩ = false ∧ w'.cell? ⟨w.heap.size, 5, none⟩ = some (.int .i64 a) ∧ w'.frozen? ⟨w.heap.size, 5, none⟩ = false) (fun W => W.cell? ⟨w.heap.size, 0, none⟩ = some (.int .i64 x0) ∧ W.frozen? ⟨w.heap.size, 0, none⟩ = false ∧ W.cell? ⟨w.heap.size, 1, none⟩ = some (.int .i64 x1) ∧ W.frozen? ⟨w.heap.size, 1, none⟩ = false ∧ W.cell? ⟨w.heap.size, 2, none⟩ = some (.int .i64 x2) ∧ W.frozen? ⟨w.heap.size, 2, none⟩ = false ∧ W.cell? ⟨w.heap.size, 3, none⟩ = some (.int .i64 t) ∧ W.frozen? ⟨w.heap.size, 3, none⟩ = false ∧ W.cell? ⟨w.heap.size, 4, none⟩ = some (.int .i64 l) ∧ W.frozen? ⟨w.heap.size, 4, none⟩ = false ∧ W.cell? ⟨w.heap.size, 5, none⟩ = some (.int .i64 a) ∧ W.frozen? ⟨w.heap.size, 5, none⟩ = false ∧ Below w.heap.size w W ∧ w.heap.size + 1 ≤ W.heap.size) 13 106 [.val (.int .i64 hi), .val (.int .i64 lo), .val (.int .i64 m), .val (.pointer (some ⟨w.heap.size, 3, none⟩)), .val (.int .i64 t), .val (.pointer (some ⟨w.heap.size, 4, none⟩)), .val (.int .i64 l), .val (.pointer (some ⟨w.heap.size, 5, none⟩)), .val (.int .i64 a), .val (.int .i64 m), .val (.int .i64 t), .val (.int .i64 l), .val (.int .i64 a)] (by kernel_rfl) (by kernel_rfl) rfl (by kernel_rfl) (by rintro w1 w2 ⟨h0, h1, h2, h3, h4, h5, h6, h7, h8, h9, h10, h11⟩ hb; exact ⟨bcs hb h0, bfs hb h0 h1, bcs hb h2, bfs hb h2 h3, bcs hb h4, bfs hb h4 h5, bcs hb h6, bfs hb h6 h7, bcs hb h8, bfs hb h8 h9, bcs hb h10, bfs hb h10 h11⟩) ⟨by first | with_reducible assumption | go_simp, by first | with_reducible assumption | go_simp, by first | with_reducible assumption | go_simp, by first | with_reducible assumption | go_simp, by first | with_reducible assumption | go_simp, by first | with_reducible assumption | go_simp, by first | with_reducible assumption | go_simp, by first | with_reducible assumption | go_simp, by first | with_reducible assumption | go_simp, by first | with_reducible assumption | go_simp, by first | with_reducible assumption | go_simp, by first | with_reducible assumption | go_simp, by repeat (first | with_reducible exact Below.refl _ _ | with_reducible exact B2 | with_reducible apply below_drewN | with_reducible apply Below.drew | (with_reducible refine Below.alloc ?_ (by first | (simp; done) | (simp; omega) | omega) _) | (with_reducible refine Below.setCell ?_ (by first | (simp; done) | (simp; omega) | omega) _)), by first | with_reducible assumption | (simp; done) | (simp; omega)⟩ ?_ ?_
    · rintro W ⟨k3_b2_0, g3_b2_0, k3_b2_1, g3_b2_1, k3_b2_2, g3_b2_2, k3_b2_3, g3_b2_3, k3_b2_4, g3_b2_4, k3_b2_5, g3_b2_5, B3, z3⟩; exact ⟨k3_b2_0, g3_b2_0, k3_b2_1, g3_b2_1, k3_b2_2, g3_b2_2, k3_b2_3, g3_b2_3, k3_b2_4, g3_b2_4, k3_b2_5, g3_b2_5⟩
    (try clear B2)
    (try clear z2)
    (try clear k2_b2_0)
    (try clear g2_b2_0)
    (try clear k2_b2_1)
    (try clear g2_b2_1)
    (try clear k2_b2_2)
    (try clear g2_b2_2)
    (try clear k2_b2_3)
    (try clear g2_b2_3)
    (try clear k2_b2_4)
    (try clear g2_b2_4)
    (try clear k2_b2_5)
    (try clear g2_b2_5)
    (try clear q2_b2)
    (try clear x2_b2)
    (try clear y2_b2)
    rintro w3 ⟨k3_b2_0, g3_b2_0, k3_b2_1, g3_b2_1, k3_b2_2, g3_b2_2, k3_b2_3, g3_b2_3, k3_b2_4, g3_b2_4, k3_b2_5, g3_b2_5, B3, z3⟩ gg
    simp only [List.take_succ_cons, List.take_zero, List.drop_succ_cons, List.drop_zero, List.cons_append, List.nil_append, List.append_nil]
    refine obe_val (by rfl) ?_ ?_
    · clear k3_b2_0 g3_b2_0 k3_b2_1 g3_b2_1 k3_b2_2 g3_b2_2 k3_b2_3 g3_b2_3 k3_b2_4 g3_b2_4 k3_b2_5 g3_b2_5 B3 z3; intro f hf; have u7 : f 7 = (.int .i64 hi) := (by rw [← hf]; rfl); clear hf; rintro w' ⟨h0, h1, h2, h3, h4, h5, h6, h7, h8, h9, h10, h11⟩; go_simp; try exact IntWalk.i64_in _ (by omega)
    refine obe_val (by rfl) ?_ ?_
    · clear k3_b2_0 g3_b2_0 k3_b2_1 g3_b2_1 k3_b2_2 g3_b2_2 k3_b2_3 g3_b2_3 k3_b2_4 g3_b2_4 k3_b2_5 g3_b2_5 B3 z3; intro f hf; have u6 : f 6 = (.int .i64 lo) := (by rw [← hf]; rfl); clear hf; rintro w' ⟨h0, h1, h2, h3, h4, h5, h6, h7, h8, h9, h10, h11⟩; go_simp; try exact IntWalk.i64_in _ (by omega)
    refine obe_val (by rfl) ?_ ?_
    · clear k3_b2_0 g3_b2_0 k3_b2_1 g3_b2_1 k3_b2_2 g3_b2_2 k3_b2_3 g3_b2_3 k3_b2_4 g3_b2_4 k3_b2_5 g3_b2_5 B3 z3; intro f hf; have u20 : f 20 = (.int .i64 hi) := (by rw [← hf]; rfl); have u21 : f 21 = (.int .i64 lo) := (by rw [← hf]; rfl); clear hf; rintro w' ⟨h0, h1, h2, h3, h4, h5, h6, h7, h8, h9, h10, h11⟩; go_simp; try exact IntWalk.i64_in _ (by omega)
    refine obe_val (by rfl) ?_ ?_
    · clear k3_b2_0 g3_b2_0 k3_b2_1 g3_b2_1 k3_b2_2 g3_b2_2 k3_b2_3 g3_b2_3 k3_b2_4 g3_b2_4 k3_b2_5 g3_b2_5 B3 z3; intro f hf; have u2 : f 2 = (.pointer (some ⟨w.heap.size, 0, none⟩)) := (by rw [← hf]; rfl); clear hf; rintro w' ⟨h0, h1, h2, h3, h4, h5, h6, h7, h8, h9, h10, h11⟩; go_simp; try exact IntWalk.i64_in _ (by omega)
    refine obe_val (by rfl) ?_ ?_
    · clear k3_b2_0 g3_b2_0 k3_b2_1 g3_b2_1 k3_b2_2 g3_b2_2 k3_b2_3 g3_b2_3 k3_b2_4 g3_b2_4 k3_b2_5 g3_b2_5 B3 z3; intro f hf; have u23 : f 23 = (.pointer (some ⟨w.heap.size, 3, none⟩)) := (by rw [← hf]; rfl); clear hf; rintro w' ⟨h0, h1, h2, h3, h4, h5, h6, h7, h8, h9, h10, h11⟩; go_simp; try exact IntWalk.i64_in _ (by omega)
    refine obe_val (by rfl) ?_ ?_
    · clear k3_b2_0 g3_b2_0 k3_b2_1 g3_b2_1 k3_b2_2 g3_b2_2 k3_b2_3 g3_b2_3 k3_b2_4 g3_b2_4 k3_b2_5 g3_b2_5 B3 z3; intro f hf; have u2 : f 2 = (.pointer (some ⟨w.heap.size, 0, none⟩)) := (by rw [← hf]; rfl); clear hf; rintro w' ⟨h0, h1, h2, h3, h4, h5, h6, h7, h8, h9, h10, h11⟩; go_simp; try exact IntWalk.i64_in _ (by omega)
    refine obe_val (by rfl) ?_ ?_
    · clear k3_b2_0 g3_b2_0 k3_b2_1 g3_b2_1 k3_b2_2 g3_b2_2 k3_b2_3 g3_b2_3 k3_b2_4 g3_b2_4 k3_b2_5 g3_b2_5 B3 z3; intro f hf; have u25 : f 25 = (.pointer (some ⟨w.heap.size, 4, none⟩)) := (by rw [← hf]; rfl); clear hf; rintro w' ⟨h0, h1, h2, h3, h4, h5, h6, h7, h8, h9, h10, h11⟩; go_simp; try exact IntWalk.i64_in _ (by omega)
    refine obe_val (by rfl) ?_ ?_
    · clear k3_b2_0 g3_b2_0 k3_b2_1 g3_b2_1 k3_b2_2 g3_b2_2 k3_b2_3 g3_b2_3 k3_b2_4 g3_b2_4 k3_b2_5 g3_b2_5 B3 z3; intro f hf; have u2 : f 2 = (.pointer (some ⟨w.heap.size, 0, none⟩)) := (by rw [← hf]; rfl); clear hf; rintro w' ⟨h0, h1, h2, h3, h4, h5, h6, h7, h8, h9, h10, h11⟩; go_simp; try exact IntWalk.i64_in _ (by omega)
    refine obe_val (by rfl) ?_ ?_
    · clear k3_b2_0 g3_b2_0 k3_b2_1 g3_b2_1 k3_b2_2 g3_b2_2 k3_b2_3 g3_b2_3 k3_b2_4 g3_b2_4 k3_b2_5 g3_b2_5 B3 z3; intro f hf; have u27 : f 27 = (.pointer (some ⟨w.heap.size, 5, none⟩)) := (by rw [← hf]; rfl); clear hf; rintro w' ⟨h0, h1, h2, h3, h4, h5, h6, h7, h8, h9, h10, h11⟩; go_simp; try exact IntWalk.i64_in _ (by omega)
    refine obe_val (by rfl) ?_ ?_
    · clear k3_b2_0 g3_b2_0 k3_b2_1 g3_b2_1 k3_b2_2 g3_b2_2 k3_b2_3 g3_b2_3 k3_b2_4 g3_b2_4 k3_b2_5 g3_b2_5 B3 z3; intro f hf; have u22 : f 22 = (.int .i64 m) := (by rw [← hf]; rfl); clear hf; rintro w' ⟨h0, h1, h2, h3, h4, h5, h6, h7, h8, h9, h10, h11⟩; go_simp; try exact IntWalk.i64_in _ (by omega)
    refine obe_val (by rfl) ?_ ?_
    · clear k3_b2_0 g3_b2_0 k3_b2_1 g3_b2_1 k3_b2_2 g3_b2_2 k3_b2_3 g3_b2_3 k3_b2_4 g3_b2_4 k3_b2_5 g3_b2_5 B3 z3; intro f hf; have u24 : f 24 = (.int .i64 t) := (by rw [← hf]; rfl); clear hf; rintro w' ⟨h0, h1, h2, h3, h4, h5, h6, h7, h8, h9, h10, h11⟩; go_simp; try exact IntWalk.i64_in _ (by omega)
    refine obe_val (by rfl) ?_ ?_
    · clear k3_b2_0 g3_b2_0 k3_b2_1 g3_b2_1 k3_b2_2 g3_b2_2 k3_b2_3 g3_b2_3 k3_b2_4 g3_b2_4 k3_b2_5 g3_b2_5 B3 z3; intro f hf; have u26 : f 26 = (.int .i64 l) := (by rw [← hf]; rfl); clear hf; rintro w' ⟨h0, h1, h2, h3, h4, h5, h6, h7, h8, h9, h10, h11⟩; go_simp; try exact IntWalk.i64_in _ (by omega)
    refine obe_val (by rfl) ?_ ?_
    · clear k3_b2_0 g3_b2_0 k3_b2_1 g3_b2_1 k3_b2_2 g3_b2_2 k3_b2_3 g3_b2_3 k3_b2_4 g3_b2_4 k3_b2_5 g3_b2_5 B3 z3; intro f hf; have u28 : f 28 = (.int .i64 a) := (by rw [← hf]; rfl); clear hf; rintro w' ⟨h0, h1, h2, h3, h4, h5, h6, h7, h8, h9, h10, h11⟩; go_simp; try exact IntWalk.i64_in _ (by omega)
    refine obe_nil ?_
    rintro w4 ⟨h0, h1, h2, h3, h4, h5, h6, h7, h8, h9, h10, h11⟩ hb4 hF
    (try simp only [List.nil_append, List.append_nil, List.cons_append] at hF)
    simp only [puts, putD, Act.put, List.setIfInBounds_toArray, List.set_cons_zero, List.set_cons_succ]
    clear hF
    have k4_b2_0 := bcs hb4 k3_b2_0
    have g4_b2_0 := bfs hb4 k3_b2_0 g3_b2_0
    have k4_b2_1 := bcs hb4 k3_b2_1
    have g4_b2_1 := bfs hb4 k3_b2_1 g3_b2_1
    have k4_b2_2 := bcs hb4 k3_b2_2
    have g4_b2_2 := bfs hb4 k3_b2_2 g3_b2_2
    have k4_b2_3 := bcs hb4 k3_b2_3
    have g4_b2_3 := bfs hb4 k3_b2_3 g3_b2_3
    have k4_b2_4 := bcs hb4 k3_b2_4
    have g4_b2_4 := bfs hb4 k3_b2_4 g3_b2_4
    have k4_b2_5 := bcs hb4 k3_b2_5
    have g4_b2_5 := bfs hb4 k3_b2_5 g3_b2_5
    clear h0 h1 h2 h3 h4 h5 h6 h7 h8 h9 h10 h11
    have B4 := bel_step B3 hb4
    have z4 := Nat.le_trans z3 hb4.size
    clear hb4
    (try clear B3)
    (try clear z3)
    (try clear k3_b2_0)
    (try clear g3_b2_0)
    (try clear k3_b2_1)
    (try clear g3_b2_1)
    (try clear k3_b2_2)
    (try clear g3_b2_2)
    (try clear k3_b2_3)
    (try clear g3_b2_3)
    (try clear k3_b2_4)
    (try clear g3_b2_4)
    (try clear k3_b2_5)
    (try clear g3_b2_5)
    (try clear q3_b2)
    (try clear x3_b2)
    (try clear y3_b2)
    have q4_b2 : w.heap.size < w4.heap.size := qlt k4_b2_0
    have x4_b2 : ¬ w.heap.size = w4.heap.size := qne k4_b2_0
    have y4_b2 : ¬ w4.heap.size = w.heap.size := fun h => qne k4_b2_0 h.symm
    unfold wpList
    go_wp2_with (go_at_call 58; (with_reducible refine (cl _).mono ?_); rintro e wz ⟨rfl, hbz⟩; have kz0 : wz.cell? ⟨w.heap.size, 0, none⟩ = some (.int .i64 x0) := bcs hbz (by go_simp); have kz1 : wz.cell? ⟨w.heap.size, 1, none⟩ = some (.int .i64 x1) := bcs hbz (by go_simp); have kz2 : wz.cell? ⟨w.heap.size, 2, none⟩ = some (.int .i64 x2) := bcs hbz (by go_simp); have kz3 : wz.cell? ⟨w.heap.size, 3, none⟩ = some (.int .i64 t) := bcs hbz (by go_simp); have kz4 : wz.cell? ⟨w.heap.size, 4, none⟩ = some (.int .i64 l) := bcs hbz (by go_simp); have kz5 : wz.cell? ⟨w.heap.size, 5, none⟩ = some (.int .i64 a) := bcs hbz (by go_simp); have Bz : Below w.heap.size w wz := bel_step (by repeat (first | with_reducible exact Below.refl _ _ | with_reducible exact Bz | with_reducible exact B4 | with_reducible apply below_drewN | with_reducible apply Below.drew | (with_reducible refine Below.alloc ?_ (by first | (simp; done) | (simp; omega) | omega) _) | (with_reducible refine Below.setCell ?_ (by first | (simp; done) | (simp; omega) | omega) _))) hbz; clear hbz)
    go_ret2
    refine ⟨rfl, ?_⟩
    repeat (first | with_reducible exact Below.refl _ _ | with_reducible exact Bz | with_reducible exact B4 | with_reducible apply below_drewN | with_reducible apply Below.drew | (with_reducible refine Below.alloc ?_ (by first | (simp; done) | (simp; omega) | omega) _) | (with_reducible refine Below.setCell ?_ (by first | (simp; done) | (simp; omega) | omega) _))
  simp only [if_neg h1]
  have hh : (m == 0) = false := by simpa using h1
  by_cases h2 : l * m < t * k
  · simp only [if_pos h2]
    go_enter Try.func49, Try.ntmps49
    go_wp2
    refine wp_region_env (fun w' => w'.cell? ⟨w.heap.size, 0, none⟩ = some (.int .i64 x0) ∧ w'.frozen? ⟨w.heap.size, 0, none⟩ = false ∧ w'.cell? ⟨w.heap.size, 1, none⟩ = some (.int .i64 x1) ∧ w'.frozen? ⟨w.heap.size, 1, none⟩ = false ∧ w'.cell? ⟨w.heap.size, 2, none⟩ = some (.int .i64 x2) ∧ w'.frozen? ⟨w.heap.size, 2, none⟩ = false ∧ w'.cell? ⟨w.heap.size, 3, none⟩ = some (.int .i64 t) ∧ w'.frozen? ⟨w.heap.size, 3, none⟩ = false ∧ w'.cell? ⟨w.heap.size, 4, none⟩ = some (.int .i64 l) ∧ w'.frozen? ⟨w.heap.size, 4, none⟩ = false ∧ w'.cell? ⟨w.heap.size, 5, none⟩ = some (.int .i64 a) ∧ w'.frozen? ⟨w.heap.size, 5, none⟩ = false) (fun W => W.cell? ⟨w.heap.size, 0, none⟩ = some (.int .i64 x0) ∧ W.frozen? ⟨w.heap.size, 0, none⟩ = false ∧ W.cell? ⟨w.heap.size, 1, none⟩ = some (.int .i64 x1) ∧ W.frozen? ⟨w.heap.size, 1, none⟩ = false ∧ W.cell? ⟨w.heap.size, 2, none⟩ = some (.int .i64 x2) ∧ W.frozen? ⟨w.heap.size, 2, none⟩ = false ∧ W.cell? ⟨w.heap.size, 3, none⟩ = some (.int .i64 t) ∧ W.frozen? ⟨w.heap.size, 3, none⟩ = false ∧ W.cell? ⟨w.heap.size, 4, none⟩ = some (.int .i64 l) ∧ W.frozen? ⟨w.heap.size, 4, none⟩ = false ∧ W.cell? ⟨w.heap.size, 5, none⟩ = some (.int .i64 a) ∧ W.frozen? ⟨w.heap.size, 5, none⟩ = false ∧ Below w.heap.size w W ∧ w.heap.size + 1 ≤ W.heap.size) 8 106 [.val (.pointer (some ⟨w.heap.size, 0, none⟩)), .val (.slice (some ⟨w.heap.size, 0, none⟩) 3 3), .call 59 #[.slice (some ⟨w.heap.size, 0, none⟩) 3 3] (.int .i64 lo), .val (.pointer (some ⟨w.heap.size, 0, none⟩)), .val (.slice (some ⟨w.heap.size, 0, none⟩) 3 3), .call 60 #[.slice (some ⟨w.heap.size, 0, none⟩) 3 3] (.int .i64 hi), .val (.int .i64 lo), .val (.int .i64 hi)] (by kernel_rfl) (by kernel_rfl) rfl (by kernel_rfl) (by rintro w1 w2 ⟨h0, h1, h2, h3, h4, h5, h6, h7, h8, h9, h10, h11⟩ hb; exact ⟨bcs hb h0, bfs hb h0 h1, bcs hb h2, bfs hb h2 h3, bcs hb h4, bfs hb h4 h5, bcs hb h6, bfs hb h6 h7, bcs hb h8, bfs hb h8 h9, bcs hb h10, bfs hb h10 h11⟩) ⟨by first | with_reducible assumption | go_simp, by first | with_reducible assumption | go_simp, by first | with_reducible assumption | go_simp, by first | with_reducible assumption | go_simp, by first | with_reducible assumption | go_simp, by first | with_reducible assumption | go_simp, by first | with_reducible assumption | go_simp, by first | with_reducible assumption | go_simp, by first | with_reducible assumption | go_simp, by first | with_reducible assumption | go_simp, by first | with_reducible assumption | go_simp, by first | with_reducible assumption | go_simp, by repeat (first | with_reducible exact Below.refl _ _ | fail | with_reducible apply below_drewN | with_reducible apply Below.drew | (with_reducible refine Below.alloc ?_ (by first | (simp; done) | (simp; omega) | omega) _) | (with_reducible refine Below.setCell ?_ (by first | (simp; done) | (simp; omega) | omega) _)), by first | with_reducible assumption | (simp; done) | (simp; omega)⟩ ?_ ?_
    · rintro W ⟨k1_b2_0, g1_b2_0, k1_b2_1, g1_b2_1, k1_b2_2, g1_b2_2, k1_b2_3, g1_b2_3, k1_b2_4, g1_b2_4, k1_b2_5, g1_b2_5, B1, z1⟩; exact ⟨k1_b2_0, g1_b2_0, k1_b2_1, g1_b2_1, k1_b2_2, g1_b2_2, k1_b2_3, g1_b2_3, k1_b2_4, g1_b2_4, k1_b2_5, g1_b2_5⟩
    rintro w1 ⟨k1_b2_0, g1_b2_0, k1_b2_1, g1_b2_1, k1_b2_2, g1_b2_2, k1_b2_3, g1_b2_3, k1_b2_4, g1_b2_4, k1_b2_5, g1_b2_5, B1, z1⟩ gg
    simp only [List.take_succ_cons, List.take_zero, List.drop_succ_cons, List.drop_zero, List.cons_append, List.nil_append, List.append_nil]
    refine obe_val (by rfl) ?_ ?_
    · clear k1_b2_0 g1_b2_0 k1_b2_1 g1_b2_1 k1_b2_2 g1_b2_2 k1_b2_3 g1_b2_3 k1_b2_4 g1_b2_4 k1_b2_5 g1_b2_5 B1 z1; intro f hf; have u2 : f 2 = (.pointer (some ⟨w.heap.size, 0, none⟩)) := (by rw [← hf]; rfl); clear hf; rintro w' ⟨h0, h1, h2, h3, h4, h5, h6, h7, h8, h9, h10, h11⟩; go_simp; try exact IntWalk.i64_in _ (by omega)
    refine obe_val (by rfl) ?_ ?_
    · clear k1_b2_0 g1_b2_0 k1_b2_1 g1_b2_1 k1_b2_2 g1_b2_2 k1_b2_3 g1_b2_3 k1_b2_4 g1_b2_4 k1_b2_5 g1_b2_5 B1 z1; intro f hf; have u14 : f 14 = (.pointer (some ⟨w.heap.size, 0, none⟩)) := (by rw [← hf]; rfl); clear hf; rintro w' ⟨h0, h1, h2, h3, h4, h5, h6, h7, h8, h9, h10, h11⟩; go_simp; try exact IntWalk.i64_in _ (by omega)
    refine obe_call (by rfl) ?_ ?_ ?_
    · clear k1_b2_0 g1_b2_0 k1_b2_1 g1_b2_1 k1_b2_2 g1_b2_2 k1_b2_3 g1_b2_3 k1_b2_4 g1_b2_4 k1_b2_5 g1_b2_5 B1 z1; intro f hf; have u15 : f 15 = (.slice (some ⟨w.heap.size, 0, none⟩) 3 3) := (by rw [← hf]; rfl); clear hf; intro w' _; simp only [execOp, resolve, invoke, rhoF_tmp, rhoF_func, rhoF_const, u15, List.map_toArray, List.map_cons, List.map_nil]; go_simp
    · clear k1_b2_0 g1_b2_0 k1_b2_1 g1_b2_1 k1_b2_2 g1_b2_2 k1_b2_3 g1_b2_3 k1_b2_4 g1_b2_4 k1_b2_5 g1_b2_5 B1 z1; rintro w' ⟨h0, h1, h2, h3, h4, h5, h6, h7, h8, h9, h10, h11⟩; exact (cmin _ _ (by assumption) (by assumption) (by assumption)).mono (by rintro e w2 ⟨rfl, rfl⟩; exact ⟨rfl, Below.refl _ _⟩)
    refine obe_val (by rfl) ?_ ?_
    · clear k1_b2_0 g1_b2_0 k1_b2_1 g1_b2_1 k1_b2_2 g1_b2_2 k1_b2_3 g1_b2_3 k1_b2_4 g1_b2_4 k1_b2_5 g1_b2_5 B1 z1; intro f hf; have u2 : f 2 = (.pointer (some ⟨w.heap.size, 0, none⟩)) := (by rw [← hf]; rfl); clear hf; rintro w' ⟨h0, h1, h2, h3, h4, h5, h6, h7, h8, h9, h10, h11⟩; go_simp; try exact IntWalk.i64_in _ (by omega)
    refine obe_val (by rfl) ?_ ?_
    · clear k1_b2_0 g1_b2_0 k1_b2_1 g1_b2_1 k1_b2_2 g1_b2_2 k1_b2_3 g1_b2_3 k1_b2_4 g1_b2_4 k1_b2_5 g1_b2_5 B1 z1; intro f hf; have u17 : f 17 = (.pointer (some ⟨w.heap.size, 0, none⟩)) := (by rw [← hf]; rfl); clear hf; rintro w' ⟨h0, h1, h2, h3, h4, h5, h6, h7, h8, h9, h10, h11⟩; go_simp; try exact IntWalk.i64_in _ (by omega)
    refine obe_call (by rfl) ?_ ?_ ?_
    · clear k1_b2_0 g1_b2_0 k1_b2_1 g1_b2_1 k1_b2_2 g1_b2_2 k1_b2_3 g1_b2_3 k1_b2_4 g1_b2_4 k1_b2_5 g1_b2_5 B1 z1; intro f hf; have u18 : f 18 = (.slice (some ⟨w.heap.size, 0, none⟩) 3 3) := (by rw [← hf]; rfl); clear hf; intro w' _; simp only [execOp, resolve, invoke, rhoF_tmp, rhoF_func, rhoF_const, u18, List.map_toArray, List.map_cons, List.map_nil]; go_simp
    · clear k1_b2_0 g1_b2_0 k1_b2_1 g1_b2_1 k1_b2_2 g1_b2_2 k1_b2_3 g1_b2_3 k1_b2_4 g1_b2_4 k1_b2_5 g1_b2_5 B1 z1; rintro w' ⟨h0, h1, h2, h3, h4, h5, h6, h7, h8, h9, h10, h11⟩; exact (cmax _ _ (by assumption) (by assumption) (by assumption)).mono (by rintro e w2 ⟨rfl, rfl⟩; exact ⟨rfl, Below.refl _ _⟩)
    refine obe_val (by rfl) ?_ ?_
    · clear k1_b2_0 g1_b2_0 k1_b2_1 g1_b2_1 k1_b2_2 g1_b2_2 k1_b2_3 g1_b2_3 k1_b2_4 g1_b2_4 k1_b2_5 g1_b2_5 B1 z1; intro f hf; have u16 : f 16 = (.int .i64 lo) := (by rw [← hf]; rfl); clear hf; rintro w' ⟨h0, h1, h2, h3, h4, h5, h6, h7, h8, h9, h10, h11⟩; go_simp; try exact IntWalk.i64_in _ (by omega)
    refine obe_val (by rfl) ?_ ?_
    · clear k1_b2_0 g1_b2_0 k1_b2_1 g1_b2_1 k1_b2_2 g1_b2_2 k1_b2_3 g1_b2_3 k1_b2_4 g1_b2_4 k1_b2_5 g1_b2_5 B1 z1; intro f hf; have u19 : f 19 = (.int .i64 hi) := (by rw [← hf]; rfl); clear hf; rintro w' ⟨h0, h1, h2, h3, h4, h5, h6, h7, h8, h9, h10, h11⟩; go_simp; try exact IntWalk.i64_in _ (by omega)
    refine obe_nil ?_
    rintro w2 ⟨h0, h1, h2, h3, h4, h5, h6, h7, h8, h9, h10, h11⟩ hb2 hF
    (try simp only [List.nil_append, List.append_nil, List.cons_append] at hF)
    simp only [puts, putD, Act.put, List.setIfInBounds_toArray, List.set_cons_zero, List.set_cons_succ]
    clear hF
    have k2_b2_0 := bcs hb2 k1_b2_0
    have g2_b2_0 := bfs hb2 k1_b2_0 g1_b2_0
    have k2_b2_1 := bcs hb2 k1_b2_1
    have g2_b2_1 := bfs hb2 k1_b2_1 g1_b2_1
    have k2_b2_2 := bcs hb2 k1_b2_2
    have g2_b2_2 := bfs hb2 k1_b2_2 g1_b2_2
    have k2_b2_3 := bcs hb2 k1_b2_3
    have g2_b2_3 := bfs hb2 k1_b2_3 g1_b2_3
    have k2_b2_4 := bcs hb2 k1_b2_4
    have g2_b2_4 := bfs hb2 k1_b2_4 g1_b2_4
    have k2_b2_5 := bcs hb2 k1_b2_5
    have g2_b2_5 := bfs hb2 k1_b2_5 g1_b2_5
    clear h0 h1 h2 h3 h4 h5 h6 h7 h8 h9 h10 h11
    have B2 := bel_step B1 hb2
    have z2 := Nat.le_trans z1 hb2.size
    clear hb2
    (try clear B1)
    (try clear z1)
    (try clear k1_b2_0)
    (try clear g1_b2_0)
    (try clear k1_b2_1)
    (try clear g1_b2_1)
    (try clear k1_b2_2)
    (try clear g1_b2_2)
    (try clear k1_b2_3)
    (try clear g1_b2_3)
    (try clear k1_b2_4)
    (try clear g1_b2_4)
    (try clear k1_b2_5)
    (try clear g1_b2_5)
    (try clear q1_b2)
    (try clear x1_b2)
    (try clear y1_b2)
    have q2_b2 : w.heap.size < w2.heap.size := qlt k2_b2_0
    have x2_b2 : ¬ w.heap.size = w2.heap.size := qne k2_b2_0
    have y2_b2 : ¬ w2.heap.size = w.heap.size := fun h => qne k2_b2_0 h.symm
    unfold wpList
    go_wp2
    refine wp_region_env (fun w' => w'.cell? ⟨w.heap.size, 0, none⟩ = some (.int .i64 x0) ∧ w'.frozen? ⟨w.heap.size, 0, none⟩ = false ∧ w'.cell? ⟨w.heap.size, 1, none⟩ = some (.int .i64 x1) ∧ w'.frozen? ⟨w.heap.size, 1, none⟩ = false ∧ w'.cell? ⟨w.heap.size, 2, none⟩ = some (.int .i64 x2) ∧ w'.frozen? ⟨w.heap.size, 2, none⟩ = false ∧ w'.cell? ⟨w.heap.size, 3, none⟩ = some (.int .i64 t) ∧ w'.frozen? ⟨w.heap.size, 3, none⟩ = false ∧ w'.cell? ⟨w.heap.size, 4, none⟩ = some (.int .i64 l) ∧ w'.frozen? ⟨w.heap.size, 4, none⟩ = false ∧ w'.cell? ⟨w.heap.size, 5, none⟩ = some (.int .i64 a) ∧ w'.frozen? ⟨w.heap.size, 5, none⟩ = false) (fun W => W.cell? ⟨w.heap.size, 0, none⟩ = some (.int .i64 x0) ∧ W.frozen? ⟨w.heap.size, 0, none⟩ = false ∧ W.cell? ⟨w.heap.size, 1, none⟩ = some (.int .i64 x1) ∧ W.frozen? ⟨w.heap.size, 1, none⟩ = false ∧ W.cell? ⟨w.heap.size, 2, none⟩ = some (.int .i64 x2) ∧ W.frozen? ⟨w.heap.size, 2, none⟩ = false ∧ W.cell? ⟨w.heap.size, 3, none⟩ = some (.int .i64 t) ∧ W.frozen? ⟨w.heap.size, 3, none⟩ = false ∧ W.cell? ⟨w.heap.size, 4, none⟩ = some (.int .i64 l) ∧ W.frozen? ⟨w.heap.size, 4, none⟩ = false ∧ W.cell? ⟨w.heap.size, 5, none⟩ = some (.int .i64 a) ∧ W.frozen? ⟨w.heap.size, 5, none⟩ = false ∧ Below w.heap.size w W ∧ w.heap.size + 1 ≤ W.heap.size) 13 106 [.val (.int .i64 hi), .val (.int .i64 lo), .val (.int .i64 m), .val (.pointer (some ⟨w.heap.size, 3, none⟩)), .val (.int .i64 t), .val (.pointer (some ⟨w.heap.size, 4, none⟩)), .val (.int .i64 l), .val (.pointer (some ⟨w.heap.size, 5, none⟩)), .val (.int .i64 a), .val (.int .i64 m), .val (.int .i64 t), .val (.int .i64 l), .val (.int .i64 a)] (by kernel_rfl) (by kernel_rfl) rfl (by kernel_rfl) (by rintro w1 w2 ⟨h0, h1, h2, h3, h4, h5, h6, h7, h8, h9, h10, h11⟩ hb; exact ⟨bcs hb h0, bfs hb h0 h1, bcs hb h2, bfs hb h2 h3, bcs hb h4, bfs hb h4 h5, bcs hb h6, bfs hb h6 h7, bcs hb h8, bfs hb h8 h9, bcs hb h10, bfs hb h10 h11⟩) ⟨by first | with_reducible assumption | go_simp, by first | with_reducible assumption | go_simp, by first | with_reducible assumption | go_simp, by first | with_reducible assumption | go_simp, by first | with_reducible assumption | go_simp, by first | with_reducible assumption | go_simp, by first | with_reducible assumption | go_simp, by first | with_reducible assumption | go_simp, by first | with_reducible assumption | go_simp, by first | with_reducible assumption | go_simp, by first | with_reducible assumption | go_simp, by first | with_reducible assumption | go_simp, by repeat (first | with_reducible exact Below.refl _ _ | with_reducible exact B2 | with_reducible apply below_drewN | with_reducible apply Below.drew | (with_reducible refine Below.alloc ?_ (by first | (simp; done) | (simp; omega) | omega) _) | (with_reducible refine Below.setCell ?_ (by first | (simp; done) | (simp; omega) | omega) _)), by first | with_reducible assumption | (simp; done) | (simp; omega)⟩ ?_ ?_
    · rintro W ⟨k3_b2_0, g3_b2_0, k3_b2_1, g3_b2_1, k3_b2_2, g3_b2_2, k3_b2_3, g3_b2_3, k3_b2_4, g3_b2_4, k3_b2_5, g3_b2_5, B3, z3⟩; exact ⟨k3_b2_0, g3_b2_0, k3_b2_1, g3_b2_1, k3_b2_2, g3_b2_2, k3_b2_3, g3_b2_3, k3_b2_4, g3_b2_4, k3_b2_5, g3_b2_5⟩
    (try clear B2)
    (try clear z2)
    (try clear k2_b2_0)
    (try clear g2_b2_0)
    (try clear k2_b2_1)
    (try clear g2_b2_1)
    (try clear k2_b2_2)
    (try clear g2_b2_2)
    (try clear k2_b2_3)
    (try clear g2_b2_3)
    (try clear k2_b2_4)
    (try clear g2_b2_4)
    (try clear k2_b2_5)
    (try clear g2_b2_5)
    (try clear q2_b2)
    (try clear x2_b2)
    (try clear y2_b2)
    rintro w3 ⟨k3_b2_0, g3_b2_0, k3_b2_1, g3_b2_1, k3_b2_2, g3_b2_2, k3_b2_3, g3_b2_3, k3_b2_4, g3_b2_4, k3_b2_5, g3_b2_5, B3, z3⟩ gg
    simp only [List.take_succ_cons, List.take_zero, List.drop_succ_cons, List.drop_zero, List.cons_append, List.nil_append, List.append_nil]
    refine obe_val (by rfl) ?_ ?_
    · clear k3_b2_0 g3_b2_0 k3_b2_1 g3_b2_1 k3_b2_2 g3_b2_2 k3_b2_3 g3_b2_3 k3_b2_4 g3_b2_4 k3_b2_5 g3_b2_5 B3 z3; intro f hf; have u7 : f 7 = (.int .i64 hi) := (by rw [← hf]; rfl); clear hf; rintro w' ⟨h0, h1, h2, h3, h4, h5, h6, h7, h8, h9, h10, h11⟩; go_simp; try exact IntWalk.i64_in _ (by omega)
    refine obe_val (by rfl) ?_ ?_
    · clear k3_b2_0 g3_b2_0 k3_b2_1 g3_b2_1 k3_b2_2 g3_b2_2 k3_b2_3 g3_b2_3 k3_b2_4 g3_b2_4 k3_b2_5 g3_b2_5 B3 z3; intro f hf; have u6 : f 6 = (.int .i64 lo) := (by rw [← hf]; rfl); clear hf; rintro w' ⟨h0, h1, h2, h3, h4, h5, h6, h7, h8, h9, h10, h11⟩; go_simp; try exact IntWalk.i64_in _ (by omega)
    refine obe_val (by rfl) ?_ ?_
    · clear k3_b2_0 g3_b2_0 k3_b2_1 g3_b2_1 k3_b2_2 g3_b2_2 k3_b2_3 g3_b2_3 k3_b2_4 g3_b2_4 k3_b2_5 g3_b2_5 B3 z3; intro f hf; have u20 : f 20 = (.int .i64 hi) := (by rw [← hf]; rfl); have u21 : f 21 = (.int .i64 lo) := (by rw [← hf]; rfl); clear hf; rintro w' ⟨h0, h1, h2, h3, h4, h5, h6, h7, h8, h9, h10, h11⟩; go_simp; try exact IntWalk.i64_in _ (by omega)
    refine obe_val (by rfl) ?_ ?_
    · clear k3_b2_0 g3_b2_0 k3_b2_1 g3_b2_1 k3_b2_2 g3_b2_2 k3_b2_3 g3_b2_3 k3_b2_4 g3_b2_4 k3_b2_5 g3_b2_5 B3 z3; intro f hf; have u2 : f 2 = (.pointer (some ⟨w.heap.size, 0, none⟩)) := (by rw [← hf]; rfl); clear hf; rintro w' ⟨h0, h1, h2, h3, h4, h5, h6, h7, h8, h9, h10, h11⟩; go_simp; try exact IntWalk.i64_in _ (by omega)
    refine obe_val (by rfl) ?_ ?_
    · clear k3_b2_0 g3_b2_0 k3_b2_1 g3_b2_1 k3_b2_2 g3_b2_2 k3_b2_3 g3_b2_3 k3_b2_4 g3_b2_4 k3_b2_5 g3_b2_5 B3 z3; intro f hf; have u23 : f 23 = (.pointer (some ⟨w.heap.size, 3, none⟩)) := (by rw [← hf]; rfl); clear hf; rintro w' ⟨h0, h1, h2, h3, h4, h5, h6, h7, h8, h9, h10, h11⟩; go_simp; try exact IntWalk.i64_in _ (by omega)
    refine obe_val (by rfl) ?_ ?_
    · clear k3_b2_0 g3_b2_0 k3_b2_1 g3_b2_1 k3_b2_2 g3_b2_2 k3_b2_3 g3_b2_3 k3_b2_4 g3_b2_4 k3_b2_5 g3_b2_5 B3 z3; intro f hf; have u2 : f 2 = (.pointer (some ⟨w.heap.size, 0, none⟩)) := (by rw [← hf]; rfl); clear hf; rintro w' ⟨h0, h1, h2, h3, h4, h5, h6, h7, h8, h9, h10, h11⟩; go_simp; try exact IntWalk.i64_in _ (by omega)
    refine obe_val (by rfl) ?_ ?_
    · clear k3_b2_0 g3_b2_0 k3_b2_1 g3_b2_1 k3_b2_2 g3_b2_2 k3_b2_3 g3_b2_3 k3_b2_4 g3_b2_4 k3_b2_5 g3_b2_5 B3 z3; intro f hf; have u25 : f 25 = (.pointer (some ⟨w.heap.size, 4, none⟩)) := (by rw [← hf]; rfl); clear hf; rintro w' ⟨h0, h1, h2, h3, h4, h5, h6, h7, h8, h9, h10, h11⟩; go_simp; try exact IntWalk.i64_in _ (by omega)
    refine obe_val (by rfl) ?_ ?_
    · clear k3_b2_0 g3_b2_0 k3_b2_1 g3_b2_1 k3_b2_2 g3_b2_2 k3_b2_3 g3_b2_3 k3_b2_4 g3_b2_4 k3_b2_5 g3_b2_5 B3 z3; intro f hf; have u2 : f 2 = (.pointer (some ⟨w.heap.size, 0, none⟩)) := (by rw [← hf]; rfl); clear hf; rintro w' ⟨h0, h1, h2, h3, h4, h5, h6, h7, h8, h9, h10, h11⟩; go_simp; try exact IntWalk.i64_in _ (by omega)
    refine obe_val (by rfl) ?_ ?_
    · clear k3_b2_0 g3_b2_0 k3_b2_1 g3_b2_1 k3_b2_2 g3_b2_2 k3_b2_3 g3_b2_3 k3_b2_4 g3_b2_4 k3_b2_5 g3_b2_5 B3 z3; intro f hf; have u27 : f 27 = (.pointer (some ⟨w.heap.size, 5, none⟩)) := (by rw [← hf]; rfl); clear hf; rintro w' ⟨h0, h1, h2, h3, h4, h5, h6, h7, h8, h9, h10, h11⟩; go_simp; try exact IntWalk.i64_in _ (by omega)
    refine obe_val (by rfl) ?_ ?_
    · clear k3_b2_0 g3_b2_0 k3_b2_1 g3_b2_1 k3_b2_2 g3_b2_2 k3_b2_3 g3_b2_3 k3_b2_4 g3_b2_4 k3_b2_5 g3_b2_5 B3 z3; intro f hf; have u22 : f 22 = (.int .i64 m) := (by rw [← hf]; rfl); clear hf; rintro w' ⟨h0, h1, h2, h3, h4, h5, h6, h7, h8, h9, h10, h11⟩; go_simp; try exact IntWalk.i64_in _ (by omega)
    refine obe_val (by rfl) ?_ ?_
    · clear k3_b2_0 g3_b2_0 k3_b2_1 g3_b2_1 k3_b2_2 g3_b2_2 k3_b2_3 g3_b2_3 k3_b2_4 g3_b2_4 k3_b2_5 g3_b2_5 B3 z3; intro f hf; have u24 : f 24 = (.int .i64 t) := (by rw [← hf]; rfl); clear hf; rintro w' ⟨h0, h1, h2, h3, h4, h5, h6, h7, h8, h9, h10, h11⟩; go_simp; try exact IntWalk.i64_in _ (by omega)
    refine obe_val (by rfl) ?_ ?_
    · clear k3_b2_0 g3_b2_0 k3_b2_1 g3_b2_1 k3_b2_2 g3_b2_2 k3_b2_3 g3_b2_3 k3_b2_4 g3_b2_4 k3_b2_5 g3_b2_5 B3 z3; intro f hf; have u26 : f 26 = (.int .i64 l) := (by rw [← hf]; rfl); clear hf; rintro w' ⟨h0, h1, h2, h3, h4, h5, h6, h7, h8, h9, h10, h11⟩; go_simp; try exact IntWalk.i64_in _ (by omega)
    refine obe_val (by rfl) ?_ ?_
    · clear k3_b2_0 g3_b2_0 k3_b2_1 g3_b2_1 k3_b2_2 g3_b2_2 k3_b2_3 g3_b2_3 k3_b2_4 g3_b2_4 k3_b2_5 g3_b2_5 B3 z3; intro f hf; have u28 : f 28 = (.int .i64 a) := (by rw [← hf]; rfl); clear hf; rintro w' ⟨h0, h1, h2, h3, h4, h5, h6, h7, h8, h9, h10, h11⟩; go_simp; try exact IntWalk.i64_in _ (by omega)
    refine obe_nil ?_
    rintro w4 ⟨h0, h1, h2, h3, h4, h5, h6, h7, h8, h9, h10, h11⟩ hb4 hF
    (try simp only [List.nil_append, List.append_nil, List.cons_append] at hF)
    simp only [puts, putD, Act.put, List.setIfInBounds_toArray, List.set_cons_zero, List.set_cons_succ]
    clear hF
    have k4_b2_0 := bcs hb4 k3_b2_0
    have g4_b2_0 := bfs hb4 k3_b2_0 g3_b2_0
    have k4_b2_1 := bcs hb4 k3_b2_1
    have g4_b2_1 := bfs hb4 k3_b2_1 g3_b2_1
    have k4_b2_2 := bcs hb4 k3_b2_2
    have g4_b2_2 := bfs hb4 k3_b2_2 g3_b2_2
    have k4_b2_3 := bcs hb4 k3_b2_3
    have g4_b2_3 := bfs hb4 k3_b2_3 g3_b2_3
    have k4_b2_4 := bcs hb4 k3_b2_4
    have g4_b2_4 := bfs hb4 k3_b2_4 g3_b2_4
    have k4_b2_5 := bcs hb4 k3_b2_5
    have g4_b2_5 := bfs hb4 k3_b2_5 g3_b2_5
    clear h0 h1 h2 h3 h4 h5 h6 h7 h8 h9 h10 h11
    have B4 := bel_step B3 hb4
    have z4 := Nat.le_trans z3 hb4.size
    clear hb4
    (try clear B3)
    (try clear z3)
    (try clear k3_b2_0)
    (try clear g3_b2_0)
    (try clear k3_b2_1)
    (try clear g3_b2_1)
    (try clear k3_b2_2)
    (try clear g3_b2_2)
    (try clear k3_b2_3)
    (try clear g3_b2_3)
    (try clear k3_b2_4)
    (try clear g3_b2_4)
    (try clear k3_b2_5)
    (try clear g3_b2_5)
    (try clear q3_b2)
    (try clear x3_b2)
    (try clear y3_b2)
    have q4_b2 : w.heap.size < w4.heap.size := qlt k4_b2_0
    have x4_b2 : ¬ w.heap.size = w4.heap.size := qne k4_b2_0
    have y4_b2 : ¬ w4.heap.size = w.heap.size := fun h => qne k4_b2_0 h.symm
    unfold wpList
    go_wp2_with (go_at_call 58; (with_reducible refine (cl _).mono ?_); rintro e wz ⟨rfl, hbz⟩; have kz0 : wz.cell? ⟨w.heap.size, 0, none⟩ = some (.int .i64 x0) := bcs hbz (by go_simp); have kz1 : wz.cell? ⟨w.heap.size, 1, none⟩ = some (.int .i64 x1) := bcs hbz (by go_simp); have kz2 : wz.cell? ⟨w.heap.size, 2, none⟩ = some (.int .i64 x2) := bcs hbz (by go_simp); have kz3 : wz.cell? ⟨w.heap.size, 3, none⟩ = some (.int .i64 t) := bcs hbz (by go_simp); have kz4 : wz.cell? ⟨w.heap.size, 4, none⟩ = some (.int .i64 l) := bcs hbz (by go_simp); have kz5 : wz.cell? ⟨w.heap.size, 5, none⟩ = some (.int .i64 a) := bcs hbz (by go_simp); have Bz : Below w.heap.size w wz := bel_step (by repeat (first | with_reducible exact Below.refl _ _ | with_reducible exact Bz | with_reducible exact B4 | with_reducible apply below_drewN | with_reducible apply Below.drew | (with_reducible refine Below.alloc ?_ (by first | (simp; done) | (simp; omega) | omega) _) | (with_reducible refine Below.setCell ?_ (by first | (simp; done) | (simp; omega) | omega) _))) hbz; clear hbz)
    go_ret2
    refine ⟨rfl, ?_⟩
    repeat (first | with_reducible exact Below.refl _ _ | with_reducible exact Bz | with_reducible exact B4 | with_reducible apply below_drewN | with_reducible apply Below.drew | (with_reducible refine Below.alloc ?_ (by first | (simp; done) | (simp; omega) | omega) _) | (with_reducible refine Below.setCell ?_ (by first | (simp; done) | (simp; omega) | omega) _))
  simp only [if_neg h2]
  by_cases h3 : 100 * a * m < 100 * m * t + l * m - t * k
  · simp only [if_pos h3]
    rw [hqk]
    go_enter Try.func49, Try.ntmps49
    go_wp2
    refine wp_region_env (fun w' => w'.cell? ⟨w.heap.size, 0, none⟩ = some (.int .i64 x0) ∧ w'.frozen? ⟨w.heap.size, 0, none⟩ = false ∧ w'.cell? ⟨w.heap.size, 1, none⟩ = some (.int .i64 x1) ∧ w'.frozen? ⟨w.heap.size, 1, none⟩ = false ∧ w'.cell? ⟨w.heap.size, 2, none⟩ = some (.int .i64 x2) ∧ w'.frozen? ⟨w.heap.size, 2, none⟩ = false ∧ w'.cell? ⟨w.heap.size, 3, none⟩ = some (.int .i64 t) ∧ w'.frozen? ⟨w.heap.size, 3, none⟩ = false ∧ w'.cell? ⟨w.heap.size, 4, none⟩ = some (.int .i64 l) ∧ w'.frozen? ⟨w.heap.size, 4, none⟩ = false ∧ w'.cell? ⟨w.heap.size, 5, none⟩ = some (.int .i64 a) ∧ w'.frozen? ⟨w.heap.size, 5, none⟩ = false) (fun W => W.cell? ⟨w.heap.size, 0, none⟩ = some (.int .i64 x0) ∧ W.frozen? ⟨w.heap.size, 0, none⟩ = false ∧ W.cell? ⟨w.heap.size, 1, none⟩ = some (.int .i64 x1) ∧ W.frozen? ⟨w.heap.size, 1, none⟩ = false ∧ W.cell? ⟨w.heap.size, 2, none⟩ = some (.int .i64 x2) ∧ W.frozen? ⟨w.heap.size, 2, none⟩ = false ∧ W.cell? ⟨w.heap.size, 3, none⟩ = some (.int .i64 t) ∧ W.frozen? ⟨w.heap.size, 3, none⟩ = false ∧ W.cell? ⟨w.heap.size, 4, none⟩ = some (.int .i64 l) ∧ W.frozen? ⟨w.heap.size, 4, none⟩ = false ∧ W.cell? ⟨w.heap.size, 5, none⟩ = some (.int .i64 a) ∧ W.frozen? ⟨w.heap.size, 5, none⟩ = false ∧ Below w.heap.size w W ∧ w.heap.size + 1 ≤ W.heap.size) 8 106 [.val (.pointer (some ⟨w.heap.size, 0, none⟩)), .val (.slice (some ⟨w.heap.size, 0, none⟩) 3 3), .call 59 #[.slice (some ⟨w.heap.size, 0, none⟩) 3 3] (.int .i64 lo), .val (.pointer (some ⟨w.heap.size, 0, none⟩)), .val (.slice (some ⟨w.heap.size, 0, none⟩) 3 3), .call 60 #[.slice (some ⟨w.heap.size, 0, none⟩) 3 3] (.int .i64 hi), .val (.int .i64 lo), .val (.int .i64 hi)] (by kernel_rfl) (by kernel_rfl) rfl (by kernel_rfl) (by rintro w1 w2 ⟨h0, h1, h2, h3, h4, h5, h6, h7, h8, h9, h10, h11⟩ hb; exact ⟨bcs hb h0, bfs hb h0 h1, bcs hb h2, bfs hb h2 h3, bcs hb h4, bfs hb h4 h5, bcs hb h6, bfs hb h6 h7, bcs hb h8, bfs hb h8 h9, bcs hb h10, bfs hb h10 h11⟩) ⟨by first | with_reducible assumption | go_simp, by first | with_reducible assumption | go_simp, by first | with_reducible assumption | go_simp, by first | with_reducible assumption | go_simp, by first | with_reducible assumption | go_simp, by first | with_reducible assumption | go_simp, by first | with_reducible assumption | go_simp, by first | with_reducible assumption | go_simp, by first | with_reducible assumption | go_simp, by first | with_reducible assumption | go_simp, by first | with_reducible assumption | go_simp, by first | with_reducible assumption | go_simp, by repeat (first | with_reducible exact Below.refl _ _ | fail | with_reducible apply below_drewN | with_reducible apply Below.drew | (with_reducible refine Below.alloc ?_ (by first | (simp; done) | (simp; omega) | omega) _) | (with_reducible refine Below.setCell ?_ (by first | (simp; done) | (simp; omega) | omega) _)), by first | with_reducible assumption | (simp; done) | (simp; omega)⟩ ?_ ?_
    · rintro W ⟨k1_b2_0, g1_b2_0, k1_b2_1, g1_b2_1, k1_b2_2, g1_b2_2, k1_b2_3, g1_b2_3, k1_b2_4, g1_b2_4, k1_b2_5, g1_b2_5, B1, z1⟩; exact ⟨k1_b2_0, g1_b2_0, k1_b2_1, g1_b2_1, k1_b2_2, g1_b2_2, k1_b2_3, g1_b2_3, k1_b2_4, g1_b2_4, k1_b2_5, g1_b2_5⟩
    rintro w1 ⟨k1_b2_0, g1_b2_0, k1_b2_1, g1_b2_1, k1_b2_2, g1_b2_2, k1_b2_3, g1_b2_3, k1_b2_4, g1_b2_4, k1_b2_5, g1_b2_5, B1, z1⟩ gg
    simp only [List.take_succ_cons, List.take_zero, List.drop_succ_cons, List.drop_zero, List.cons_append, List.nil_append, List.append_nil]
    refine obe_val (by rfl) ?_ ?_
    · clear k1_b2_0 g1_b2_0 k1_b2_1 g1_b2_1 k1_b2_2 g1_b2_2 k1_b2_3 g1_b2_3 k1_b2_4 g1_b2_4 k1_b2_5 g1_b2_5 B1 z1; intro f hf; have u2 : f 2 = (.pointer (some ⟨w.heap.size, 0, none⟩)) := (by rw [← hf]; rfl); clear hf; rintro w' ⟨h0, h1, h2, h3, h4, h5, h6, h7, h8, h9, h10, h11⟩; go_simp; try exact IntWalk.i64_in _ (by omega)
    refine obe_val (by rfl) ?_ ?_
    · clear k1_b2_0 g1_b2_0 k1_b2_1 g1_b2_1 k1_b2_2 g1_b2_2 k1_b2_3 g1_b2_3 k1_b2_4 g1_b2_4 k1_b2_5 g1_b2_5 B1 z1; intro f hf; have u14 : f 14 = (.pointer (some ⟨w.heap.size, 0, none⟩)) := (by rw [← hf]; rfl); clear hf; rintro w' ⟨h0, h1, h2, h3, h4, h5, h6, h7, h8, h9, h10, h11⟩; go_simp; try exact IntWalk.i64_in _ (by omega)
    refine obe_call (by rfl) ?_ ?_ ?_
    · clear k1_b2_0 g1_b2_0 k1_b2_1 g1_b2_1 k1_b2_2 g1_b2_2 k1_b2_3 g1_b2_3 k1_b2_4 g1_b2_4 k1_b2_5 g1_b2_5 B1 z1; intro f hf; have u15 : f 15 = (.slice (some ⟨w.heap.size, 0, none⟩) 3 3) := (by rw [← hf]; rfl); clear hf; intro w' _; simp only [execOp, resolve, invoke, rhoF_tmp, rhoF_func, rhoF_const, u15, List.map_toArray, List.map_cons, List.map_nil]; go_simp
    · clear k1_b2_0 g1_b2_0 k1_b2_1 g1_b2_1 k1_b2_2 g1_b2_2 k1_b2_3 g1_b2_3 k1_b2_4 g1_b2_4 k1_b2_5 g1_b2_5 B1 z1; rintro w' ⟨h0, h1, h2, h3, h4, h5, h6, h7, h8, h9, h10, h11⟩; exact (cmin _ _ (by assumption) (by assumption) (by assumption)).mono (by rintro e w2 ⟨rfl, rfl⟩; exact ⟨rfl, Below.refl _ _⟩)
    refine obe_val (by rfl) ?_ ?_
    · clear k1_b2_0 g1_b2_0 k1_b2_1 g1_b2_1 k1_b2_2 g1_b2_2 k1_b2_3 g1_b2_3 k1_b2_4 g1_b2_4 k1_b2_5 g1_b2_5 B1 z1; intro f hf; have u2 : f 2 = (.pointer (some ⟨w.heap.size, 0, none⟩)) := (by rw [← hf]; rfl); clear hf; rintro w' ⟨h0, h1, h2, h3, h4, h5, h6, h7, h8, h9, h10, h11⟩; go_simp; try exact IntWalk.i64_in _ (by omega)
    refine obe_val (by rfl) ?_ ?_
    · clear k1_b2_0 g1_b2_0 k1_b2_1 g1_b2_1 k1_b2_2 g1_b2_2 k1_b2_3 g1_b2_3 k1_b2_4 g1_b2_4 k1_b2_5 g1_b2_5 B1 z1; intro f hf; have u17 : f 17 = (.pointer (some ⟨w.heap.size, 0, none⟩)) := (by rw [← hf]; rfl); clear hf; rintro w' ⟨h0, h1, h2, h3, h4, h5, h6, h7, h8, h9, h10, h11⟩; go_simp; try exact IntWalk.i64_in _ (by omega)
    refine obe_call (by rfl) ?_ ?_ ?_
    · clear k1_b2_0 g1_b2_0 k1_b2_1 g1_b2_1 k1_b2_2 g1_b2_2 k1_b2_3 g1_b2_3 k1_b2_4 g1_b2_4 k1_b2_5 g1_b2_5 B1 z1; intro f hf; have u18 : f 18 = (.slice (some ⟨w.heap.size, 0, none⟩) 3 3) := (by rw [← hf]; rfl); clear hf; intro w' _; simp only [execOp, resolve, invoke, rhoF_tmp, rhoF_func, rhoF_const, u18, List.map_toArray, List.map_cons, List.map_nil]; go_simp
    · clear k1_b2_0 g1_b2_0 k1_b2_1 g1_b2_1 k1_b2_2 g1_b2_2 k1_b2_3 g1_b2_3 k1_b2_4 g1_b2_4 k1_b2_5 g1_b2_5 B1 z1; rintro w' ⟨h0, h1, h2, h3, h4, h5, h6, h7, h8, h9, h10, h11⟩; exact (cmax _ _ (by assumption) (by assumption) (by assumption)).mono (by rintro e w2 ⟨rfl, rfl⟩; exact ⟨rfl, Below.refl _ _⟩)
    refine obe_val (by rfl) ?_ ?_
    · clear k1_b2_0 g1_b2_0 k1_b2_1 g1_b2_1 k1_b2_2 g1_b2_2 k1_b2_3 g1_b2_3 k1_b2_4 g1_b2_4 k1_b2_5 g1_b2_5 B1 z1; intro f hf; have u16 : f 16 = (.int .i64 lo) := (by rw [← hf]; rfl); clear hf; rintro w' ⟨h0, h1, h2, h3, h4, h5, h6, h7, h8, h9, h10, h11⟩; go_simp; try exact IntWalk.i64_in _ (by omega)
    refine obe_val (by rfl) ?_ ?_
    · clear k1_b2_0 g1_b2_0 k1_b2_1 g1_b2_1 k1_b2_2 g1_b2_2 k1_b2_3 g1_b2_3 k1_b2_4 g1_b2_4 k1_b2_5 g1_b2_5 B1 z1; intro f hf; have u19 : f 19 = (.int .i64 hi) := (by rw [← hf]; rfl); clear hf; rintro w' ⟨h0, h1, h2, h3, h4, h5, h6, h7, h8, h9, h10, h11⟩; go_simp; try exact IntWalk.i64_in _ (by omega)
    refine obe_nil ?_
    rintro w2 ⟨h0, h1, h2, h3, h4, h5, h6, h7, h8, h9, h10, h11⟩ hb2 hF
    (try simp only [List.nil_append, List.append_nil, List.cons_append] at hF)
    simp only [puts, putD, Act.put, List.setIfInBounds_toArray, List.set_cons_zero, List.set_cons_succ]
    clear hF
    have k2_b2_0 := bcs hb2 k1_b2_0
    have g2_b2_0 := bfs hb2 k1_b2_0 g1_b2_0
    have k2_b2_1 := bcs hb2 k1_b2_1
    have g2_b2_1 := bfs hb2 k1_b2_1 g1_b2_1
    have k2_b2_2 := bcs hb2 k1_b2_2
    have g2_b2_2 := bfs hb2 k1_b2_2 g1_b2_2
    have k2_b2_3 := bcs hb2 k1_b2_3
    have g2_b2_3 := bfs hb2 k1_b2_3 g1_b2_3
    have k2_b2_4 := bcs hb2 k1_b2_4
    have g2_b2_4 := bfs hb2 k1_b2_4 g1_b2_4
    have k2_b2_5 := bcs hb2 k1_b2_5
    have g2_b2_5 := bfs hb2 k1_b2_5 g1_b2_5
    clear h0 h1 h2 h3 h4 h5 h6 h7 h8 h9 h10 h11
    have B2 := bel_step B1 hb2
    have z2 := Nat.le_trans z1 hb2.size
    clear hb2
    (try clear B1)
    (try clear z1)
    (try clear k1_b2_0)
    (try clear g1_b2_0)
    (try clear k1_b2_1)
    (try clear g1_b2_1)
    (try clear k1_b2_2)
    (try clear g1_b2_2)
    (try clear k1_b2_3)
    (try clear g1_b2_3)
    (try clear k1_b2_4)
    (try clear g1_b2_4)
    (try clear k1_b2_5)
    (try clear g1_b2_5)
    (try clear q1_b2)
    (try clear x1_b2)
    (try clear y1_b2)
    have q2_b2 : w.heap.size < w2.heap.size := qlt k2_b2_0
    have x2_b2 : ¬ w.heap.size = w2.heap.size := qne k2_b2_0
    have y2_b2 : ¬ w2.heap.size = w.heap.size := fun h => qne k2_b2_0 h.symm
    unfold wpList
    go_wp2
    refine wp_region_env (fun w' => w'.cell? ⟨w.heap.size, 0, none⟩ = some (.int .i64 x0) ∧ w'.frozen? ⟨w.heap.size, 0, none⟩ = false ∧ w'.cell? ⟨w.heap.size, 1, none⟩ = some (.int .i64 x1) ∧ w'.frozen? ⟨w.heap.size, 1, none⟩ = false ∧ w'.cell? ⟨w.heap.size, 2, none⟩ = some (.int .i64 x2) ∧ w'.frozen? ⟨w.heap.size, 2, none⟩ = false ∧ w'.cell? ⟨w.heap.size, 3, none⟩ = some (.int .i64 t) ∧ w'.frozen? ⟨w.heap.size, 3, none⟩ = false ∧ w'.cell? ⟨w.heap.size, 4, none⟩ = some (.int .i64 l) ∧ w'.frozen? ⟨w.heap.size, 4, none⟩ = false ∧ w'.cell? ⟨w.heap.size, 5, none⟩ = some (.int .i64 a) ∧ w'.frozen? ⟨w.heap.size, 5, none⟩ = false) (fun W => W.cell? ⟨w.heap.size, 0, none⟩ = some (.int .i64 x0) ∧ W.frozen? ⟨w.heap.size, 0, none⟩ = false ∧ W.cell? ⟨w.heap.size, 1, none⟩ = some (.int .i64 x1) ∧ W.frozen? ⟨w.heap.size, 1, none⟩ = false ∧ W.cell? ⟨w.heap.size, 2, none⟩ = some (.int .i64 x2) ∧ W.frozen? ⟨w.heap.size, 2, none⟩ = false ∧ W.cell? ⟨w.heap.size, 3, none⟩ = some (.int .i64 t) ∧ W.frozen? ⟨w.heap.size, 3, none⟩ = false ∧ W.cell? ⟨w.heap.size, 4, none⟩ = some (.int .i64 l) ∧ W.frozen? ⟨w.heap.size, 4, none⟩ = false ∧ W.cell? ⟨w.heap.size, 5, none⟩ = some (.int .i64 a) ∧ W.frozen? ⟨w.heap.size, 5, none⟩ = false ∧ Below w.heap.size w W ∧ w.heap.size + 1 ≤ W.heap.size) 13 106 [.val (.int .i64 hi), .val (.int .i64 lo), .val (.int .i64 m), .val (.pointer (some ⟨w.heap.size, 3, none⟩)), .val (.int .i64 t), .val (.pointer (some ⟨w.heap.size, 4, none⟩)), .val (.int .i64 l), .val (.pointer (some ⟨w.heap.size, 5, none⟩)), .val (.int .i64 a), .val (.int .i64 m), .val (.int .i64 t), .val (.int .i64 l), .val (.int .i64 a)] (by kernel_rfl) (by kernel_rfl) rfl (by kernel_rfl) (by rintro w1 w2 ⟨h0, h1, h2, h3, h4, h5, h6, h7, h8, h9, h10, h11⟩ hb; exact ⟨bcs hb h0, bfs hb h0 h1, bcs hb h2, bfs hb h2 h3, bcs hb h4, bfs hb h4 h5, bcs hb h6, bfs hb h6 h7, bcs hb h8, bfs hb h8 h9, bcs hb h10, bfs hb h10 h11⟩) ⟨by first | with_reducible assumption | go_simp, by first | with_reducible assumption | go_simp, by first | with_reducible assumption | go_simp, by first | with_reducible assumption | go_simp, by first | with_reducible assumption | go_simp, by first | with_reducible assumption | go_simp, by first | with_reducible assumption | go_simp, by first | with_reducible assumption | go_simp, by first | with_reducible assumption | go_simp, by first | with_reducible assumption | go_simp, by first | with_reducible assumption | go_simp, by first | with_reducible assumption | go_simp, by repeat (first | with_reducible exact Below.refl _ _ | with_reducible exact B2 | with_reducible apply below_drewN | with_reducible apply Below.drew | (with_reducible refine Below.alloc ?_ (by first | (simp; done) | (simp; omega) | omega) _) | (with_reducible refine Below.setCell ?_ (by first | (simp; done) | (simp; omega) | omega) _)), by first | with_reducible assumption | (simp; done) | (simp; omega)⟩ ?_ ?_
    · rintro W ⟨k3_b2_0, g3_b2_0, k3_b2_1, g3_b2_1, k3_b2_2, g3_b2_2, k3_b2_3, g3_b2_3, k3_b2_4, g3_b2_4, k3_b2_5, g3_b2_5, B3, z3⟩; exact ⟨k3_b2_0, g3_b2_0, k3_b2_1, g3_b2_1, k3_b2_2, g3_b2_2, k3_b2_3, g3_b2_3, k3_b2_4, g3_b2_4, k3_b2_5, g3_b2_5⟩
    (try clear B2)
    (try clear z2)
    (try clear k2_b2_0)
    (try clear g2_b2_0)
    (try clear k2_b2_1)
    (try clear g2_b2_1)
    (try clear k2_b2_2)
    (try clear g2_b2_2)
    (try clear k2_b2_3)
    (try clear g2_b2_3)
    (try clear k2_b2_4)
    (try clear g2_b2_4)
    (try clear k2_b2_5)
    (try clear g2_b2_5)
    (try clear q2_b2)
    (try clear x2_b2)
    (try clear y2_b2)
    rintro w3 ⟨k3_b2_0, g3_b2_0, k3_b2_1, g3_b2_1, k3_b2_2, g3_b2_2, k3_b2_3, g3_b2_3, k3_b2_4, g3_b2_4, k3_b2_5, g3_b2_5, B3, z3⟩ gg
    simp only [List.take_succ_cons, List.take_zero, List.drop_succ_cons, List.drop_zero, List.cons_append, List.nil_append, List.append_nil]
    refine obe_val (by rfl) ?_ ?_
    · clear k3_b2_0 g3_b2_0 k3_b2_1 g3_b2_1 k3_b2_2 g3_b2_2 k3_b2_3 g3_b2_3 k3_b2_4 g3_b2_4 k3_b2_5 g3_b2_5 B3 z3; intro f hf; have u7 : f 7 = (.int .i64 hi) := (by rw [← hf]; rfl); clear hf; rintro w' ⟨h0, h1, h2, h3, h4, h5, h6, h7, h8, h9, h10, h11⟩; go_simp; try exact IntWalk.i64_in _ (by omega)
    refine obe_val (by rfl) ?_ ?_
    · clear k3_b2_0 g3_b2_0 k3_b2_1 g3_b2_1 k3_b2_2 g3_b2_2 k3_b2_3 g3_b2_3 k3_b2_4 g3_b2_4 k3_b2_5 g3_b2_5 B3 z3; intro f hf; have u6 : f 6 = (.int .i64 lo) := (by rw [← hf]; rfl); clear hf; rintro w' ⟨h0, h1, h2, h3, h4, h5, h6, h7, h8, h9, h10, h11⟩; go_simp; try exact IntWalk.i64_in _ (by omega)
    refine obe_val (by rfl) ?_ ?_
    · clear k3_b2_0 g3_b2_0 k3_b2_1 g3_b2_1 k3_b2_2 g3_b2_2 k3_b2_3 g3_b2_3 k3_b2_4 g3_b2_4 k3_b2_5 g3_b2_5 B3 z3; intro f hf; have u20 : f 20 = (.int .i64 hi) := (by rw [← hf]; rfl); have u21 : f 21 = (.int .i64 lo) := (by rw [← hf]; rfl); clear hf; rintro w' ⟨h0, h1, h2, h3, h4, h5, h6, h7, h8, h9, h10, h11⟩; go_simp; try exact IntWalk.i64_in _ (by omega)
    refine obe_val (by rfl) ?_ ?_
    · clear k3_b2_0 g3_b2_0 k3_b2_1 g3_b2_1 k3_b2_2 g3_b2_2 k3_b2_3 g3_b2_3 k3_b2_4 g3_b2_4 k3_b2_5 g3_b2_5 B3 z3; intro f hf; have u2 : f 2 = (.pointer (some ⟨w.heap.size, 0, none⟩)) := (by rw [← hf]; rfl); clear hf; rintro w' ⟨h0, h1, h2, h3, h4, h5, h6, h7, h8, h9, h10, h11⟩; go_simp; try exact IntWalk.i64_in _ (by omega)
    refine obe_val (by rfl) ?_ ?_
    · clear k3_b2_0 g3_b2_0 k3_b2_1 g3_b2_1 k3_b2_2 g3_b2_2 k3_b2_3 g3_b2_3 k3_b2_4 g3_b2_4 k3_b2_5 g3_b2_5 B3 z3; intro f hf; have u23 : f 23 = (.pointer (some ⟨w.heap.size, 3, none⟩)) := (by rw [← hf]; rfl); clear hf; rintro w' ⟨h0, h1, h2, h3, h4, h5, h6, h7, h8, h9, h10, h11⟩; go_simp; try exact IntWalk.i64_in _ (by omega)
    refine obe_val (by rfl) ?_ ?_
    · clear k3_b2_0 g3_b2_0 k3_b2_1 g3_b2_1 k3_b2_2 g3_b2_2 k3_b2_3 g3_b2_3 k3_b2_4 g3_b2_4 k3_b2_5 g3_b2_5 B3 z3; intro f hf; have u2 : f 2 = (.pointer (some ⟨w.heap.size, 0, none⟩)) := (by rw [← hf]; rfl); clear hf; rintro w' ⟨h0, h1, h2, h3, h4, h5, h6, h7, h8, h9, h10, h11⟩; go_simp; try exact IntWalk.i64_in _ (by omega)
    refine obe_val (by rfl) ?_ ?_
    · clear k3_b2_0 g3_b2_0 k3_b2_1 g3_b2_1 k3_b2_2 g3_b2_2 k3_b2_3 g3_b2_3 k3_b2_4 g3_b2_4 k3_b2_5 g3_b2_5 B3 z3; intro f hf; have u25 : f 25 = (.pointer (some ⟨w.heap.size, 4, none⟩)) := (by rw [← hf]; rfl); clear hf; rintro w' ⟨h0, h1, h2, h3, h4, h5, h6, h7, h8, h9, h10, h11⟩; go_simp; try exact IntWalk.i64_in _ (by omega)
    refine obe_val (by rfl) ?_ ?_
    · clear k3_b2_0 g3_b2_0 k3_b2_1 g3_b2_1 k3_b2_2 g3_b2_2 k3_b2_3 g3_b2_3 k3_b2_4 g3_b2_4 k3_b2_5 g3_b2_5 B3 z3; intro f hf; have u2 : f 2 = (.pointer (some ⟨w.heap.size, 0, none⟩)) := (by rw [← hf]; rfl); clear hf; rintro w' ⟨h0, h1, h2, h3, h4, h5, h6, h7, h8, h9, h10, h11⟩; go_simp; try exact IntWalk.i64_in _ (by omega)
    refine obe_val (by rfl) ?_ ?_
    · clear k3_b2_0 g3_b2_0 k3_b2_1 g3_b2_1 k3_b2_2 g3_b2_2 k3_b2_3 g3_b2_3 k3_b2_4 g3_b2_4 k3_b2_5 g3_b2_5 B3 z3; intro f hf; have u27 : f 27 = (.pointer (some ⟨w.heap.size, 5, none⟩)) := (by rw [← hf]; rfl); clear hf; rintro w' ⟨h0, h1, h2, h3, h4, h5, h6, h7, h8, h9, h10, h11⟩; go_simp; try exact IntWalk.i64_in _ (by omega)
    refine obe_val (by rfl) ?_ ?_
    · clear k3_b2_0 g3_b2_0 k3_b2_1 g3_b2_1 k3_b2_2 g3_b2_2 k3_b2_3 g3_b2_3 k3_b2_4 g3_b2_4 k3_b2_5 g3_b2_5 B3 z3; intro f hf; have u22 : f 22 = (.int .i64 m) := (by rw [← hf]; rfl); clear hf; rintro w' ⟨h0, h1, h2, h3, h4, h5, h6, h7, h8, h9, h10, h11⟩; go_simp; try exact IntWalk.i64_in _ (by omega)
    refine obe_val (by rfl) ?_ ?_
    · clear k3_b2_0 g3_b2_0 k3_b2_1 g3_b2_1 k3_b2_2 g3_b2_2 k3_b2_3 g3_b2_3 k3_b2_4 g3_b2_4 k3_b2_5 g3_b2_5 B3 z3; intro f hf; have u24 : f 24 = (.int .i64 t) := (by rw [← hf]; rfl); clear hf; rintro w' ⟨h0, h1, h2, h3, h4, h5, h6, h7, h8, h9, h10, h11⟩; go_simp; try exact IntWalk.i64_in _ (by omega)
    refine obe_val (by rfl) ?_ ?_
    · clear k3_b2_0 g3_b2_0 k3_b2_1 g3_b2_1 k3_b2_2 g3_b2_2 k3_b2_3 g3_b2_3 k3_b2_4 g3_b2_4 k3_b2_5 g3_b2_5 B3 z3; intro f hf; have u26 : f 26 = (.int .i64 l) := (by rw [← hf]; rfl); clear hf; rintro w' ⟨h0, h1, h2, h3, h4, h5, h6, h7, h8, h9, h10, h11⟩; go_simp; try exact IntWalk.i64_in _ (by omega)
    refine obe_val (by rfl) ?_ ?_
    · clear k3_b2_0 g3_b2_0 k3_b2_1 g3_b2_1 k3_b2_2 g3_b2_2 k3_b2_3 g3_b2_3 k3_b2_4 g3_b2_4 k3_b2_5 g3_b2_5 B3 z3; intro f hf; have u28 : f 28 = (.int .i64 a) := (by rw [← hf]; rfl); clear hf; rintro w' ⟨h0, h1, h2, h3, h4, h5, h6, h7, h8, h9, h10, h11⟩; go_simp; try exact IntWalk.i64_in _ (by omega)
    refine obe_nil ?_
    rintro w4 ⟨h0, h1, h2, h3, h4, h5, h6, h7, h8, h9, h10, h11⟩ hb4 hF
    (try simp only [List.nil_append, List.append_nil, List.cons_append] at hF)
    simp only [puts, putD, Act.put, List.setIfInBounds_toArray, List.set_cons_zero, List.set_cons_succ]
    clear hF
    have k4_b2_0 := bcs hb4 k3_b2_0
    have g4_b2_0 := bfs hb4 k3_b2_0 g3_b2_0
    have k4_b2_1 := bcs hb4 k3_b2_1
    have g4_b2_1 := bfs hb4 k3_b2_1 g3_b2_1
    have k4_b2_2 := bcs hb4 k3_b2_2
    have g4_b2_2 := bfs hb4 k3_b2_2 g3_b2_2
    have k4_b2_3 := bcs hb4 k3_b2_3
    have g4_b2_3 := bfs hb4 k3_b2_3 g3_b2_3
    have k4_b2_4 := bcs hb4 k3_b2_4
    have g4_b2_4 := bfs hb4 k3_b2_4 g3_b2_4
    have k4_b2_5 := bcs hb4 k3_b2_5
    have g4_b2_5 := bfs hb4 k3_b2_5 g3_b2_5
    clear h0 h1 h2 h3 h4 h5 h6 h7 h8 h9 h10 h11
    have B4 := bel_step B3 hb4
    have z4 := Nat.le_trans z3 hb4.size
    clear hb4
    (try clear B3)
    (try clear z3)
    (try clear k3_b2_0)
    (try clear g3_b2_0)
    (try clear k3_b2_1)
    (try clear g3_b2_1)
    (try clear k3_b2_2)
    (try clear g3_b2_2)
    (try clear k3_b2_3)
    (try clear g3_b2_3)
    (try clear k3_b2_4)
    (try clear g3_b2_4)
    (try clear k3_b2_5)
    (try clear g3_b2_5)
    (try clear q3_b2)
    (try clear x3_b2)
    (try clear y3_b2)
    have q4_b2 : w.heap.size < w4.heap.size := qlt k4_b2_0
    have x4_b2 : ¬ w.heap.size = w4.heap.size := qne k4_b2_0
    have y4_b2 : ¬ w4.heap.size = w.heap.size := fun h => qne k4_b2_0 h.symm
    unfold wpList
    go_wp2_with (go_at_call 58; (with_reducible refine (cl _).mono ?_); rintro e wz ⟨rfl, hbz⟩; have kz0 : wz.cell? ⟨w.heap.size, 0, none⟩ = some (.int .i64 x0) := bcs hbz (by go_simp); have kz1 : wz.cell? ⟨w.heap.size, 1, none⟩ = some (.int .i64 x1) := bcs hbz (by go_simp); have kz2 : wz.cell? ⟨w.heap.size, 2, none⟩ = some (.int .i64 x2) := bcs hbz (by go_simp); have kz3 : wz.cell? ⟨w.heap.size, 3, none⟩ = some (.int .i64 t) := bcs hbz (by go_simp); have kz4 : wz.cell? ⟨w.heap.size, 4, none⟩ = some (.int .i64 l) := bcs hbz (by go_simp); have kz5 : wz.cell? ⟨w.heap.size, 5, none⟩ = some (.int .i64 a) := bcs hbz (by go_simp); have Bz : Below w.heap.size w wz := bel_step (by repeat (first | with_reducible exact Below.refl _ _ | with_reducible exact Bz | with_reducible exact B4 | with_reducible apply below_drewN | with_reducible apply Below.drew | (with_reducible refine Below.alloc ?_ (by first | (simp; done) | (simp; omega) | omega) _) | (with_reducible refine Below.setCell ?_ (by first | (simp; done) | (simp; omega) | omega) _))) hbz; clear hbz)
    go_ret2
    refine ⟨rfl, ?_⟩
    repeat (first | with_reducible exact Below.refl _ _ | with_reducible exact Bz | with_reducible exact B4 | with_reducible apply below_drewN | with_reducible apply Below.drew | (with_reducible refine Below.alloc ?_ (by first | (simp; done) | (simp; omega) | omega) _) | (with_reducible refine Below.setCell ?_ (by first | (simp; done) | (simp; omega) | omega) _))
  · simp only [if_neg h3]
    go_enter Try.func49, Try.ntmps49
    go_wp2
    refine wp_region_env (fun w' => w'.cell? ⟨w.heap.size, 0, none⟩ = some (.int .i64 x0) ∧ w'.frozen? ⟨w.heap.size, 0, none⟩ = false ∧ w'.cell? ⟨w.heap.size, 1, none⟩ = some (.int .i64 x1) ∧ w'.frozen? ⟨w.heap.size, 1, none⟩ = false ∧ w'.cell? ⟨w.heap.size, 2, none⟩ = some (.int .i64 x2) ∧ w'.frozen? ⟨w.heap.size, 2, none⟩ = false ∧ w'.cell? ⟨w.heap.size, 3, none⟩ = some (.int .i64 t) ∧ w'.frozen? ⟨w.heap.size, 3, none⟩ = false ∧ w'.cell? ⟨w.heap.size, 4, none⟩ = some (.int .i64 l) ∧ w'.frozen? ⟨w.heap.size, 4, none⟩ = false ∧ w'.cell? ⟨w.heap.size, 5, none⟩ = some (.int .i64 a) ∧ w'.frozen? ⟨w.heap.size, 5, none⟩ = false) (fun W => W.cell? ⟨w.heap.size, 0, none⟩ = some (.int .i64 x0) ∧ W.frozen? ⟨w.heap.size, 0, none⟩ = false ∧ W.cell? ⟨w.heap.size, 1, none⟩ = some (.int .i64 x1) ∧ W.frozen? ⟨w.heap.size, 1, none⟩ = false ∧ W.cell? ⟨w.heap.size, 2, none⟩ = some (.int .i64 x2) ∧ W.frozen? ⟨w.heap.size, 2, none⟩ = false ∧ W.cell? ⟨w.heap.size, 3, none⟩ = some (.int .i64 t) ∧ W.frozen? ⟨w.heap.size, 3, none⟩ = false ∧ W.cell? ⟨w.heap.size, 4, none⟩ = some (.int .i64 l) ∧ W.frozen? ⟨w.heap.size, 4, none⟩ = false ∧ W.cell? ⟨w.heap.size, 5, none⟩ = some (.int .i64 a) ∧ W.frozen? ⟨w.heap.size, 5, none⟩ = false ∧ Below w.heap.size w W ∧ w.heap.size + 1 ≤ W.heap.size) 8 106 [.val (.pointer (some ⟨w.heap.size, 0, none⟩)), .val (.slice (some ⟨w.heap.size, 0, none⟩) 3 3), .call 59 #[.slice (some ⟨w.heap.size, 0, none⟩) 3 3] (.int .i64 lo), .val (.pointer (some ⟨w.heap.size, 0, none⟩)), .val (.slice (some ⟨w.heap.size, 0, none⟩) 3 3), .call 60 #[.slice (some ⟨w.heap.size, 0, none⟩) 3 3] (.int .i64 hi), .val (.int .i64 lo), .val (.int .i64 hi)] (by kernel_rfl) (by kernel_rfl) rfl (by kernel_rfl) (by rintro w1 w2 ⟨h0, h1, h2, h3, h4, h5, h6, h7, h8, h9, h10, h11⟩ hb; exact ⟨bcs hb h0, bfs hb h0 h1, bcs hb h2, bfs hb h2 h3, bcs hb h4, bfs hb h4 h5, bcs hb h6, bfs hb h6 h7, bcs hb h8, bfs hb h8 h9, bcs hb h10, bfs hb h10 h11⟩) ⟨by first | with_reducible assumption | go_simp, by first | with_reducible assumption | go_simp, by first | with_reducible assumption | go_simp, by first | with_reducible assumption | go_simp, by first | with_reducible assumption | go_simp, by first | with_reducible assumption | go_simp, by first | with_reducible assumption | go_simp, by first | with_reducible assumption | go_simp, by first | with_reducible assumption | go_simp, by first | with_reducible assumption | go_simp, by first | with_reducible assumption | go_simp, by first | with_reducible assumption | go_simp, by repeat (first | with_reducible exact Below.refl _ _ | fail | with_reducible apply below_drewN | with_reducible apply Below.drew | (with_reducible refine Below.alloc ?_ (by first | (simp; done) | (simp; omega) | omega) _) | (with_reducible refine Below.setCell ?_ (by first | (simp; done) | (simp; omega) | omega) _)), by first | with_reducible assumption | (simp; done) | (simp; omega)⟩ ?_ ?_
    · rintro W ⟨k1_b2_0, g1_b2_0, k1_b2_1, g1_b2_1, k1_b2_2, g1_b2_2, k1_b2_3, g1_b2_3, k1_b2_4, g1_b2_4, k1_b2_5, g1_b2_5, B1, z1⟩; exact ⟨k1_b2_0, g1_b2_0, k1_b2_1, g1_b2_1, k1_b2_2, g1_b2_2, k1_b2_3, g1_b2_3, k1_b2_4, g1_b2_4, k1_b2_5, g1_b2_5⟩
    rintro w1 ⟨k1_b2_0, g1_b2_0, k1_b2_1, g1_b2_1, k1_b2_2, g1_b2_2, k1_b2_3, g1_b2_3, k1_b2_4, g1_b2_4, k1_b2_5, g1_b2_5, B1, z1⟩ gg
    simp only [List.take_succ_cons, List.take_zero, List.drop_succ_cons, List.drop_zero, List.cons_append, List.nil_append, List.append_nil]
    refine obe_val (by rfl) ?_ ?_
    · clear k1_b2_0 g1_b2_0 k1_b2_1 g1_b2_1 k1_b2_2 g1_b2_2 k1_b2_3 g1_b2_3 k1_b2_4 g1_b2_4 k1_b2_5 g1_b2_5 B1 z1; intro f hf; have u2 : f 2 = (.pointer (some ⟨w.heap.size, 0, none⟩)) := (by rw [← hf]; rfl); clear hf; rintro w' ⟨h0, h1, h2, h3, h4, h5, h6, h7, h8, h9, h10, h11⟩; go_simp; try exact IntWalk.i64_in _ (by omega)
    refine obe_val (by rfl) ?_ ?_
    · clear k1_b2_0 g1_b2_0 k1_b2_1 g1_b2_1 k1_b2_2 g1_b2_2 k1_b2_3 g1_b2_3 k1_b2_4 g1_b2_4 k1_b2_5 g1_b2_5 B1 z1; intro f hf; have u14 : f 14 = (.pointer (some ⟨w.heap.size, 0, none⟩)) := (by rw [← hf]; rfl); clear hf; rintro w' ⟨h0, h1, h2, h3, h4, h5, h6, h7, h8, h9, h10, h11⟩; go_simp; try exact IntWalk.i64_in _ (by omega)
    refine obe_call (by rfl) ?_ ?_ ?_
    · clear k1_b2_0 g1_b2_0 k1_b2_1 g1_b2_1 k1_b2_2 g1_b2_2 k1_b2_3 g1_b2_3 k1_b2_4 g1_b2_4 k1_b2_5 g1_b2_5 B1 z1; intro f hf; have u15 : f 15 = (.slice (some ⟨w.heap.size, 0, none⟩) 3 3) := (by rw [← hf]; rfl); clear hf; intro w' _; simp only [execOp, resolve, invoke, rhoF_tmp, rhoF_func, rhoF_const, u15, List.map_toArray, List.map_cons, List.map_nil]; go_simp
    · clear k1_b2_0 g1_b2_0 k1_b2_1 g1_b2_1 k1_b2_2 g1_b2_2 k1_b2_3 g1_b2_3 k1_b2_4 g1_b2_4 k1_b2_5 g1_b2_5 B1 z1; rintro w' ⟨h0, h1, h2, h3, h4, h5, h6, h7, h8, h9, h10, h11⟩; exact (cmin _ _ (by assumption) (by assumption) (by assumption)).mono (by rintro e w2 ⟨rfl, rfl⟩; exact ⟨rfl, Below.refl _ _⟩)
    refine obe_val (by rfl) ?_ ?_
    · clear k1_b2_0 g1_b2_0 k1_b2_1 g1_b2_1 k1_b2_2 g1_b2_2 k1_b2_3 g1_b2_3 k1_b2_4 g1_b2_4 k1_b2_5 g1_b2_5 B1 z1; intro f hf; have u2 : f 2 = (.pointer (some ⟨w.heap.size, 0, none⟩)) := (by rw [← hf]; rfl); clear hf; rintro w' ⟨h0, h1, h2, h3, h4, h5, h6, h7, h8, h9, h10, h11⟩; go_simp; try exact IntWalk.i64_in _ (by omega)
    refine obe_val (by rfl) ?_ ?_
    · clear k1_b2_0 g1_b2_0 k1_b2_1 g1_b2_1 k1_b2_2 g1_b2_2 k1_b2_3 g1_b2_3 k1_b2_4 g1_b2_4 k1_b2_5 g1_b2_5 B1 z1; intro f hf; have u17 : f 17 = (.pointer (some ⟨w.heap.size, 0, none⟩)) := (by rw [← hf]; rfl); clear hf; rintro w' ⟨h0, h1, h2, h3, h4, h5, h6, h7, h8, h9, h10, h11⟩; go_simp; try exact IntWalk.i64_in _ (by omega)
    refine obe_call (by rfl) ?_ ?_ ?_
    · clear k1_b2_0 g1_b2_0 k1_b2_1 g1_b2_1 k1_b2_2 g1_b2_2 k1_b2_3 g1_b2_3 k1_b2_4 g1_b2_4 k1_b2_5 g1_b2_5 B1 z1; intro f hf; have u18 : f 18 = (.slice (some ⟨w.heap.size, 0, none⟩) 3 3) := (by rw [← hf]; rfl); clear hf; intro w' _; simp only [execOp, resolve, invoke, rhoF_tmp, rhoF_func, rhoF_const, u18, List.map_toArray, List.map_cons, List.map_nil]; go_simp
    · clear k1_b2_0 g1_b2_0 k1_b2_1 g1_b2_1 k1_b2_2 g1_b2_2 k1_b2_3 g1_b2_3 k1_b2_4 g1_b2_4 k1_b2_5 g1_b2_5 B1 z1; rintro w' ⟨h0, h1, h2, h3, h4, h5, h6, h7, h8, h9, h10, h11⟩; exact (cmax _ _ (by assumption) (by assumption) (by assumption)).mono (by rintro e w2 ⟨rfl, rfl⟩; exact ⟨rfl, Below.refl _ _⟩)
    refine obe_val (by rfl) ?_ ?_
    · clear k1_b2_0 g1_b2_0 k1_b2_1 g1_b2_1 k1_b2_2 g1_b2_2 k1_b2_3 g1_b2_3 k1_b2_4 g1_b2_4 k1_b2_5 g1_b2_5 B1 z1; intro f hf; have u16 : f 16 = (.int .i64 lo) := (by rw [← hf]; rfl); clear hf; rintro w' ⟨h0, h1, h2, h3, h4, h5, h6, h7, h8, h9, h10, h11⟩; go_simp; try exact IntWalk.i64_in _ (by omega)
    refine obe_val (by rfl) ?_ ?_
    · clear k1_b2_0 g1_b2_0 k1_b2_1 g1_b2_1 k1_b2_2 g1_b2_2 k1_b2_3 g1_b2_3 k1_b2_4 g1_b2_4 k1_b2_5 g1_b2_5 B1 z1; intro f hf; have u19 : f 19 = (.int .i64 hi) := (by rw [← hf]; rfl); clear hf; rintro w' ⟨h0, h1, h2, h3, h4, h5, h6, h7, h8, h9, h10, h11⟩; go_simp; try exact IntWalk.i64_in _ (by omega)
    refine obe_nil ?_
    rintro w2 ⟨h0, h1, h2, h3, h4, h5, h6, h7, h8, h9, h10, h11⟩ hb2 hF
    (try simp only [List.nil_append, List.append_nil, List.cons_append] at hF)
    simp only [puts, putD, Act.put, List.setIfInBounds_toArray, List.set_cons_zero, List.set_cons_succ]
    clear hF
    have k2_b2_0 := bcs hb2 k1_b2_0
    have g2_b2_0 := bfs hb2 k1_b2_0 g1_b2_0
    have k2_b2_1 := bcs hb2 k1_b2_1
    have g2_b2_1 := bfs hb2 k1_b2_1 g1_b2_1
    have k2_b2_2 := bcs hb2 k1_b2_2
    have g2_b2_2 := bfs hb2 k1_b2_2 g1_b2_2
    have k2_b2_3 := bcs hb2 k1_b2_3
    have g2_b2_3 := bfs hb2 k1_b2_3 g1_b2_3
    have k2_b2_4 := bcs hb2 k1_b2_4
    have g2_b2_4 := bfs hb2 k1_b2_4 g1_b2_4
    have k2_b2_5 := bcs hb2 k1_b2_5
    have g2_b2_5 := bfs hb2 k1_b2_5 g1_b2_5
    clear h0 h1 h2 h3 h4 h5 h6 h7 h8 h9 h10 h11
    have B2 := bel_step B1 hb2
    have z2 := Nat.le_trans z1 hb2.size
    clear hb2
    (try clear B1)
    (try clear z1)
    (try clear k1_b2_0)
    (try clear g1_b2_0)
    (try clear k1_b2_1)
    (try clear g1_b2_1)
    (try clear k1_b2_2)
    (try clear g1_b2_2)
    (try clear k1_b2_3)
    (try clear g1_b2_3)
    (try clear k1_b2_4)
    (try clear g1_b2_4)
    (try clear k1_b2_5)
    (try clear g1_b2_5)
    (try clear q1_b2)
    (try clear x1_b2)
    (try clear y1_b2)
    have q2_b2 : w.heap.size < w2.heap.size := qlt k2_b2_0
    have x2_b2 : ¬ w.heap.size = w2.heap.size := qne k2_b2_0
    have y2_b2 : ¬ w2.heap.size = w.heap.size := fun h => qne k2_b2_0 h.symm
    unfold wpList
    go_wp2
    refine wp_region_env (fun w' => w'.cell? ⟨w.heap.size, 0, none⟩ = some (.int .i64 x0) ∧ w'.frozen? ⟨w.heap.size, 0, none⟩ = false ∧ w'.cell? ⟨w.heap.size, 1, none⟩ = some (.int .i64 x1) ∧ w'.frozen? ⟨w.heap.size, 1, none⟩ = false ∧ w'.cell? ⟨w.heap.size, 2, none⟩ = some (.int .i64 x2) ∧ w'.frozen? ⟨w.heap.size, 2, none⟩ = false ∧ w'.cell? ⟨w.heap.size, 3, none⟩ = some (.int .i64 t) ∧ w'.frozen? ⟨w.heap.size, 3, none⟩ = false ∧ w'.cell? ⟨w.heap.size, 4, none⟩ = some (.int .i64 l) ∧ w'.frozen? ⟨w.heap.size, 4, none⟩ = false ∧ w'.cell? ⟨w.heap.size, 5, none⟩ = some (.int .i64 a) ∧ w'.frozen? ⟨w.heap.size, 5, none⟩ = false) (fun W => W.cell? ⟨w.heap.size, 0, none⟩ = some (.int .i64 x0) ∧ W.frozen? ⟨w.heap.size, 0, none⟩ = false ∧ W.cell? ⟨w.heap.size, 1, none⟩ = some (.int .i64 x1) ∧ W.frozen? ⟨w.heap.size, 1, none⟩ = false ∧ W.cell? ⟨w.heap.size, 2, none⟩ = some (.int .i64 x2) ∧ W.frozen? ⟨w.heap.size, 2, none⟩ = false ∧ W.cell? ⟨w.heap.size, 3, none⟩ = some (.int .i64 t) ∧ W.frozen? ⟨w.heap.size, 3, none⟩ = false ∧ W.cell? ⟨w.heap.size, 4, none⟩ = some (.int .i64 l) ∧ W.frozen? ⟨w.heap.size, 4, none⟩ = false ∧ W.cell? ⟨w.heap.size, 5, none⟩ = some (.int .i64 a) ∧ W.frozen? ⟨w.heap.size, 5, none⟩ = false ∧ Below w.heap.size w W ∧ w.heap.size + 1 ≤ W.heap.size) 13 106 [.val (.int .i64 hi), .val (.int .i64 lo), .val (.int .i64 m), .val (.pointer (some ⟨w.heap.size, 3, none⟩)), .val (.int .i64 t), .val (.pointer (some ⟨w.heap.size, 4, none⟩)), .val (.int .i64 l), .val (.pointer (some ⟨w.heap.size, 5, none⟩)), .val (.int .i64 a), .val (.int .i64 m), .val (.int .i64 t), .val (.int .i64 l), .val (.int .i64 a)] (by kernel_rfl) (by kernel_rfl) rfl (by kernel_rfl) (by rintro w1 w2 ⟨h0, h1, h2, h3, h4, h5, h6, h7, h8, h9, h10, h11⟩ hb; exact ⟨bcs hb h0, bfs hb h0 h1, bcs hb h2, bfs hb h2 h3, bcs hb h4, bfs hb h4 h5, bcs hb h6, bfs hb h6 h7, bcs hb h8, bfs hb h8 h9, bcs hb h10, bfs hb h10 h11⟩) ⟨by first | with_reducible assumption | go_simp, by first | with_reducible assumption | go_simp, by first | with_reducible assumption | go_simp, by first | with_reducible assumption | go_simp, by first | with_reducible assumption | go_simp, by first | with_reducible assumption | go_simp, by first | with_reducible assumption | go_simp, by first | with_reducible assumption | go_simp, by first | with_reducible assumption | go_simp, by first | with_reducible assumption | go_simp, by first | with_reducible assumption | go_simp, by first | with_reducible assumption | go_simp, by repeat (first | with_reducible exact Below.refl _ _ | with_reducible exact B2 | with_reducible apply below_drewN | with_reducible apply Below.drew | (with_reducible refine Below.alloc ?_ (by first | (simp; done) | (simp; omega) | omega) _) | (with_reducible refine Below.setCell ?_ (by first | (simp; done) | (simp; omega) | omega) _)), by first | with_reducible assumption | (simp; done) | (simp; omega)⟩ ?_ ?_
    · rintro W ⟨k3_b2_0, g3_b2_0, k3_b2_1, g3_b2_1, k3_b2_2, g3_b2_2, k3_b2_3, g3_b2_3, k3_b2_4, g3_b2_4, k3_b2_5, g3_b2_5, B3, z3⟩; exact ⟨k3_b2_0, g3_b2_0, k3_b2_1, g3_b2_1, k3_b2_2, g3_b2_2, k3_b2_3, g3_b2_3, k3_b2_4, g3_b2_4, k3_b2_5, g3_b2_5⟩
    (try clear B2)
    (try clear z2)
    (try clear k2_b2_0)
    (try clear g2_b2_0)
    (try clear k2_b2_1)
    (try clear g2_b2_1)
    (try clear k2_b2_2)
    (try clear g2_b2_2)
    (try clear k2_b2_3)
    (try clear g2_b2_3)
    (try clear k2_b2_4)
    (try clear g2_b2_4)
    (try clear k2_b2_5)
    (try clear g2_b2_5)
    (try clear q2_b2)
    (try clear x2_b2)
    (try clear y2_b2)
    rintro w3 ⟨k3_b2_0, g3_b2_0, k3_b2_1, g3_b2_1, k3_b2_2, g3_b2_2, k3_b2_3, g3_b2_3, k3_b2_4, g3_b2_4, k3_b2_5, g3_b2_5, B3, z3⟩ gg
    simp only [List.take_succ_cons, List.take_zero, List.drop_succ_cons, List.drop_zero, List.cons_append, List.nil_append, List.append_nil]
    refine obe_val (by rfl) ?_ ?_
    · clear k3_b2_0 g3_b2_0 k3_b2_1 g3_b2_1 k3_b2_2 g3_b2_2 k3_b2_3 g3_b2_3 k3_b2_4 g3_b2_4 k3_b2_5 g3_b2_5 B3 z3; intro f hf; have u7 : f 7 = (.int .i64 hi) := (by rw [← hf]; rfl); clear hf; rintro w' ⟨h0, h1, h2, h3, h4, h5, h6, h7, h8, h9, h10, h11⟩; go_simp; try exact IntWalk.i64_in _ (by omega)
    refine obe_val (by rfl) ?_ ?_
    · clear k3_b2_0 g3_b2_0 k3_b2_1 g3_b2_1 k3_b2_2 g3_b2_2 k3_b2_3 g3_b2_3 k3_b2_4 g3_b2_4 k3_b2_5 g3_b2_5 B3 z3; intro f hf; have u6 : f 6 = (.int .i64 lo) := (by rw [← hf]; rfl); clear hf; rintro w' ⟨h0, h1, h2, h3, h4, h5, h6, h7, h8, h9, h10, h11⟩; go_simp; try exact IntWalk.i64_in _ (by omega)
    refine obe_val (by rfl) ?_ ?_
    · clear k3_b2_0 g3_b2_0 k3_b2_1 g3_b2_1 k3_b2_2 g3_b2_2 k3_b2_3 g3_b2_3 k3_b2_4 g3_b2_4 k3_b2_5 g3_b2_5 B3 z3; intro f hf; have u20 : f 20 = (.int .i64 hi) := (by rw [← hf]; rfl); have u21 : f 21 = (.int .i64 lo) := (by rw [← hf]; rfl); clear hf; rintro w' ⟨h0, h1, h2, h3, h4, h5, h6, h7, h8, h9, h10, h11⟩; go_simp; try exact IntWalk.i64_in _ (by omega)
    refine obe_val (by rfl) ?_ ?_
    · clear k3_b2_0 g3_b2_0 k3_b2_1 g3_b2_1 k3_b2_2 g3_b2_2 k3_b2_3 g3_b2_3 k3_b2_4 g3_b2_4 k3_b2_5 g3_b2_5 B3 z3; intro f hf; have u2 : f 2 = (.pointer (some ⟨w.heap.size, 0, none⟩)) := (by rw [← hf]; rfl); clear hf; rintro w' ⟨h0, h1, h2, h3, h4, h5, h6, h7, h8, h9, h10, h11⟩; go_simp; try exact IntWalk.i64_in _ (by omega)
    refine obe_val (by rfl) ?_ ?_
    · clear k3_b2_0 g3_b2_0 k3_b2_1 g3_b2_1 k3_b2_2 g3_b2_2 k3_b2_3 g3_b2_3 k3_b2_4 g3_b2_4 k3_b2_5 g3_b2_5 B3 z3; intro f hf; have u23 : f 23 = (.pointer (some ⟨w.heap.size, 3, none⟩)) := (by rw [← hf]; rfl); clear hf; rintro w' ⟨h0, h1, h2, h3, h4, h5, h6, h7, h8, h9, h10, h11⟩; go_simp; try exact IntWalk.i64_in _ (by omega)
    refine obe_val (by rfl) ?_ ?_
    · clear k3_b2_0 g3_b2_0 k3_b2_1 g3_b2_1 k3_b2_2 g3_b2_2 k3_b2_3 g3_b2_3 k3_b2_4 g3_b2_4 k3_b2_5 g3_b2_5 B3 z3; intro f hf; have u2 : f 2 = (.pointer (some ⟨w.heap.size, 0, none⟩)) := (by rw [← hf]; rfl); clear hf; rintro w' ⟨h0, h1, h2, h3, h4, h5, h6, h7, h8, h9, h10, h11⟩; go_simp; try exact IntWalk.i64_in _ (by omega)
    refine obe_val (by rfl) ?_ ?_
    · clear k3_b2_0 g3_b2_0 k3_b2_1 g3_b2_1 k3_b2_2 g3_b2_2 k3_b2_3 g3_b2_3 k3_b2_4 g3_b2_4 k3_b2_5 g3_b2_5 B3 z3; intro f hf; have u25 : f 25 = (.pointer (some ⟨w.heap.size, 4, none⟩)) := (by rw [← hf]; rfl); clear hf; rintro w' ⟨h0, h1, h2, h3, h4, h5, h6, h7, h8, h9, h10, h11⟩; go_simp; try exact IntWalk.i64_in _ (by omega)
    refine obe_val (by rfl) ?_ ?_
    · clear k3_b2_0 g3_b2_0 k3_b2_1 g3_b2_1 k3_b2_2 g3_b2_2 k3_b2_3 g3_b2_3 k3_b2_4 g3_b2_4 k3_b2_5 g3_b2_5 B3 z3; intro f hf; have u2 : f 2 = (.pointer (some ⟨w.heap.size, 0, none⟩)) := (by rw [← hf]; rfl); clear hf; rintro w' ⟨h0, h1, h2, h3, h4, h5, h6, h7, h8, h9, h10, h11⟩; go_simp; try exact IntWalk.i64_in _ (by omega)
    refine obe_val (by rfl) ?_ ?_
    · clear k3_b2_0 g3_b2_0 k3_b2_1 g3_b2_1 k3_b2_2 g3_b2_2 k3_b2_3 g3_b2_3 k3_b2_4 g3_b2_4 k3_b2_5 g3_b2_5 B3 z3; intro f hf; have u27 : f 27 = (.pointer (some ⟨w.heap.size, 5, none⟩)) := (by rw [← hf]; rfl); clear hf; rintro w' ⟨h0, h1, h2, h3, h4, h5, h6, h7, h8, h9, h10, h11⟩; go_simp; try exact IntWalk.i64_in _ (by omega)
    refine obe_val (by rfl) ?_ ?_
    · clear k3_b2_0 g3_b2_0 k3_b2_1 g3_b2_1 k3_b2_2 g3_b2_2 k3_b2_3 g3_b2_3 k3_b2_4 g3_b2_4 k3_b2_5 g3_b2_5 B3 z3; intro f hf; have u22 : f 22 = (.int .i64 m) := (by rw [← hf]; rfl); clear hf; rintro w' ⟨h0, h1, h2, h3, h4, h5, h6, h7, h8, h9, h10, h11⟩; go_simp; try exact IntWalk.i64_in _ (by omega)
    refine obe_val (by rfl) ?_ ?_
    · clear k3_b2_0 g3_b2_0 k3_b2_1 g3_b2_1 k3_b2_2 g3_b2_2 k3_b2_3 g3_b2_3 k3_b2_4 g3_b2_4 k3_b2_5 g3_b2_5 B3 z3; intro f hf; have u24 : f 24 = (.int .i64 t) := (by rw [← hf]; rfl); clear hf; rintro w' ⟨h0, h1, h2, h3, h4, h5, h6, h7, h8, h9, h10, h11⟩; go_simp; try exact IntWalk.i64_in _ (by omega)
    refine obe_val (by rfl) ?_ ?_
    · clear k3_b2_0 g3_b2_0 k3_b2_1 g3_b2_1 k3_b2_2 g3_b2_2 k3_b2_3 g3_b2_3 k3_b2_4 g3_b2_4 k3_b2_5 g3_b2_5 B3 z3; intro f hf; have u26 : f 26 = (.int .i64 l) := (by rw [← hf]; rfl); clear hf; rintro w' ⟨h0, h1, h2, h3, h4, h5, h6, h7, h8, h9, h10, h11⟩; go_simp; try exact IntWalk.i64_in _ (by omega)
    refine obe_val (by rfl) ?_ ?_
    · clear k3_b2_0 g3_b2_0 k3_b2_1 g3_b2_1 k3_b2_2 g3_b2_2 k3_b2_3 g3_b2_3 k3_b2_4 g3_b2_4 k3_b2_5 g3_b2_5 B3 z3; intro f hf; have u28 : f 28 = (.int .i64 a) := (by rw [← hf]; rfl); clear hf; rintro w' ⟨h0, h1, h2, h3, h4, h5, h6, h7, h8, h9, h10, h11⟩; go_simp; try exact IntWalk.i64_in _ (by omega)
    refine obe_nil ?_
    rintro w4 ⟨h0, h1, h2, h3, h4, h5, h6, h7, h8, h9, h10, h11⟩ hb4 hF
    (try simp only [List.nil_append, List.append_nil, List.cons_append] at hF)
    simp only [puts, putD, Act.put, List.setIfInBounds_toArray, List.set_cons_zero, List.set_cons_succ]
    clear hF
    have k4_b2_0 := bcs hb4 k3_b2_0
    have g4_b2_0 := bfs hb4 k3_b2_0 g3_b2_0
    have k4_b2_1 := bcs hb4 k3_b2_1
    have g4_b2_1 := bfs hb4 k3_b2_1 g3_b2_1
    have k4_b2_2 := bcs hb4 k3_b2_2
    have g4_b2_2 := bfs hb4 k3_b2_2 g3_b2_2
    have k4_b2_3 := bcs hb4 k3_b2_3
    have g4_b2_3 := bfs hb4 k3_b2_3 g3_b2_3
    have k4_b2_4 := bcs hb4 k3_b2_4
    have g4_b2_4 := bfs hb4 k3_b2_4 g3_b2_4
    have k4_b2_5 := bcs hb4 k3_b2_5
    have g4_b2_5 := bfs hb4 k3_b2_5 g3_b2_5
    clear h0 h1 h2 h3 h4 h5 h6 h7 h8 h9 h10 h11
    have B4 := bel_step B3 hb4
    have z4 := Nat.le_trans z3 hb4.size
    clear hb4
    (try clear B3)
    (try clear z3)
    (try clear k3_b2_0)
    (try clear g3_b2_0)
    (try clear k3_b2_1)
    (try clear g3_b2_1)
    (try clear k3_b2_2)
    (try clear g3_b2_2)
    (try clear k3_b2_3)
    (try clear g3_b2_3)
    (try clear k3_b2_4)
    (try clear g3_b2_4)
    (try clear k3_b2_5)
    (try clear g3_b2_5)
    (try clear q3_b2)
    (try clear x3_b2)
    (try clear y3_b2)
    have q4_b2 : w.heap.size < w4.heap.size := qlt k4_b2_0
    have x4_b2 : ¬ w.heap.size = w4.heap.size := qne k4_b2_0
    have y4_b2 : ¬ w4.heap.size = w.heap.size := fun h => qne k4_b2_0 h.symm
    unfold wpList
    go_wp2_with (go_at_call 58; (with_reducible refine (cl _).mono ?_); rintro e wz ⟨rfl, hbz⟩; have kz0 : wz.cell? ⟨w.heap.size, 0, none⟩ = some (.int .i64 x0) := bcs hbz (by go_simp); have kz1 : wz.cell? ⟨w.heap.size, 1, none⟩ = some (.int .i64 x1) := bcs hbz (by go_simp); have kz2 : wz.cell? ⟨w.heap.size, 2, none⟩ = some (.int .i64 x2) := bcs hbz (by go_simp); have kz3 : wz.cell? ⟨w.heap.size, 3, none⟩ = some (.int .i64 t) := bcs hbz (by go_simp); have kz4 : wz.cell? ⟨w.heap.size, 4, none⟩ = some (.int .i64 l) := bcs hbz (by go_simp); have kz5 : wz.cell? ⟨w.heap.size, 5, none⟩ = some (.int .i64 a) := bcs hbz (by go_simp); have Bz : Below w.heap.size w wz := bel_step (by repeat (first | with_reducible exact Below.refl _ _ | with_reducible exact Bz | with_reducible exact B4 | with_reducible apply below_drewN | with_reducible apply Below.drew | (with_reducible refine Below.alloc ?_ (by first | (simp; done) | (simp; omega) | omega) _) | (with_reducible refine Below.setCell ?_ (by first | (simp; done) | (simp; omega) | omega) _))) hbz; clear hbz)
    go_ret2
    refine ⟨rfl, ?_⟩
    repeat (first | with_reducible exact Below.refl _ _ | with_reducible exact Bz | with_reducible exact B4 | with_reducible apply below_drewN | with_reducible apply Below.drew | (with_reducible refine Below.alloc ?_ (by first | (simp; done) | (simp; omega) | omega) _) | (with_reducible refine Below.setCell ?_ (by first | (simp; done) | (simp; omega) | omega) _))
end Go.Proofs.Ytgaabdidddglhaa
