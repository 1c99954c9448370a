import Derived.Test.YtcklplodbdbciaaG2
import Derived.Test.YtcklplodbdbciaaG3
import Derived.WalkKit
import Derived.WalkSpells
import Derived.WalkLawsBesides
import Derived.Lib.Hide
import Derived.Below
import Derived.Deep.QuietTactic
import Derived.BigQuiet
import Derived.Deep.RegionHeld3
import Derived.Deep.DrawnRows
import Derived.Deep.DeepFit
import Derived.IntWalk
namespace Go.Proofs.Ytcklplodbdbciaa
open Go.RowKit
set_option linter.unusedVariables false
set_option linter.unusedSimpArgs false
attribute [local go_sem ↓] Go.wp_at_zero Go.wp_at_succ
attribute [local go_sem] rhoF_tmp rhoF_const rhoF_global rhoF_func

set_option maxHeartbeats 4000000 in
theorem colorAt2_any (g c : Nat) (ao ar ag ab aa bo br bg bb ba t : Int) (ar0 : 0 ≤ ar) (ar1 : ar ≤ 255) (ag0 : 0 ≤ ag) (ag1 : ag ≤ 255) (ab0 : 0 ≤ ab) (ab1 : ab ≤ 255) (aa0 : 0 ≤ aa) (aa1 : aa ≤ 255) (br0 : 0 ≤ br) (br1 : br ≤ 255) (bg0 : 0 ≤ bg) (bg1 : bg ≤ 255) (bb0 : 0 ≤ bb) (bb1 : bb ≤ 255) (ba0 : 0 ≤ ba) (ba1 : ba ≤ 255) (w : World) (hT : Two w g ao ar ag ab aa bo br bg bb ba) (hv : v2 ao bo = true) (h0 : ao ≤ t) (h1 : t ≤ bo) :
    Calls Try.prog 10 #[.slice (some ⟨g, 0, none⟩) 2 c, .int .i64 t] w fun e w' => e = .returned (.agg #[.int .u8 (if t < bo then lc ar br (t - ao) (bo - ao) else br), .int .u8 (if t < bo then lc ag bg (t - ao) (bo - ao) else bg), .int .u8 (if t < bo then lc ab bb (t - ao) (bo - ao) else bb), .int .u8 (if t < bo then lc aa ba (t - ao) (bo - ao) else ba)]) ∧ Below w.heap.size w w' := by
  have cv := fun w hT => valid2_any g c ao ar ag ab aa bo br bg bb ba w hT
  rw [hv] at cv
  have cl := fun w hT => last2_any g c ao ar ag ab aa bo br bg bb ba t w hT h0
  have hgl := qlt (hT.1)
  have hv' : 0 ≤ ao ∧ bo ≤ 65536 := by simp [v2, vOff] at hv; omega
  have hgn := qne (hT.1)
  by_cases h2 : t < bo
  · rw [if_pos h2] at cl
    have cc := fun w => lerpC_any ar ag ab aa br bg bb ba (t - ao) (bo - ao) (t - ao) (by unfold clampV; rw [if_neg (by omega), if_neg (by omega)]) ar0 ar1 ag0 ag1 ab0 ab1 aa0 aa1 br0 br1 bg0 bg1 bb0 bb1 ba0 ba1 (by omega) (by omega) (by omega) (by omega) w
    simp only [if_pos h2]
    obtain ⟨l0, hl0⟩ : ∃ x, lc ar br (t - ao) (bo - ao) = x := ⟨_, rfl⟩
    obtain ⟨l1, hl1⟩ : ∃ x, lc ag bg (t - ao) (bo - ao) = x := ⟨_, rfl⟩
    obtain ⟨l2, hl2⟩ : ∃ x, lc ab bb (t - ao) (bo - ao) = x := ⟨_, rfl⟩
    obtain ⟨l3, hl3⟩ : ∃ x, lc aa ba (t - ao) (bo - ao) = x := ⟨_, rfl⟩
    rw [hl0, hl1, hl2, hl3] at cc ⊢
    clear hl0 hl1 hl2 hl3 hv
    go_enter Try.func10, Try.ntmps10
    go_wp2_with (first | (go_at_call 9; (with_reducible refine (cv _ (hT.below (by repeat (first | with_reducible exact Below.refl _ _ | fail | with_reducible apply below_drewN | with_reducible apply Below.drew | (with_reducible refine Below.alloc ?_ (by first | (simp; done) | (simp; omega) | omega) _) | (with_reducible refine Below.setCell ?_ (by first | (simp; done) | (simp; omega) | omega) _))))).mono ?_); rintro e w1 ⟨rfl, hb1⟩; have B1 : Below w.heap.size w w1 := bel_step (by repeat (first | with_reducible exact Below.refl _ _ | fail | with_reducible apply below_drewN | with_reducible apply Below.drew | (with_reducible refine Below.alloc ?_ (by first | (simp; done) | (simp; omega) | omega) _) | (with_reducible refine Below.setCell ?_ (by first | (simp; done) | (simp; omega) | omega) _))) hb1; obtain ⟨k1_sl_0, g1_sl_0, k1_sl_1, g1_sl_1, k1_sl_2, g1_sl_2, k1_sl_3, g1_sl_3, k1_sl_4, g1_sl_4, k1_sl_5, g1_sl_5, k1_sl_6, g1_sl_6, k1_sl_7, g1_sl_7, k1_sl_8, g1_sl_8, k1_sl_9, g1_sl_9⟩ := hT.below B1; have k1_b4_0 : w1.cell? ⟨w.heap.size, 0, none⟩ = some (.int .u8 0) := bcs hb1 (by go_simp); have g1_b4_0 : w1.frozen? ⟨w.heap.size, 0, none⟩ = false := bfs hb1 (v := .int .u8 0) (by go_simp) (by go_simp); have k1_b4_1 : w1.cell? ⟨w.heap.size, 1, none⟩ = some (.int .u8 0) := bcs hb1 (by go_simp); have g1_b4_1 : w1.frozen? ⟨w.heap.size, 1, none⟩ = false := bfs hb1 (v := .int .u8 0) (by go_simp) (by go_simp); have k1_b4_2 : w1.cell? ⟨w.heap.size, 2, none⟩ = some (.int .u8 0) := bcs hb1 (by go_simp); have g1_b4_2 : w1.frozen? ⟨w.heap.size, 2, none⟩ = false := bfs hb1 (v := .int .u8 0) (by go_simp) (by go_simp); have k1_b4_3 : w1.cell? ⟨w.heap.size, 3, none⟩ = some (.int .u8 0) := bcs hb1 (by go_simp); have g1_b4_3 : w1.frozen? ⟨w.heap.size, 3, none⟩ = false := bfs hb1 (v := .int .u8 0) (by go_simp) (by go_simp); have q1_b4 : w.heap.size < w1.heap.size := qlt k1_b4_0; have x1_b4 : ¬ w.heap.size = w1.heap.size := qne k1_b4_0; have y1_b4 : ¬ w1.heap.size = w.heap.size := fun h => qne k1_b4_0 h.symm; have q1_sl : g < w1.heap.size := qlt k1_sl_0; have x1_sl : ¬ g = w1.heap.size := qne k1_sl_0; have y1_sl : ¬ w1.heap.size = g := fun h => qne k1_sl_0 h.symm; have z1 : w.heap.size + 1 ≤ w1.heap.size := Nat.le_trans (by first | with_reducible assumption | (simp; done) | (simp; omega)) hb1.size; clear hb1) | (go_at_call 19; (with_reducible refine (cl _ (hT.below (by repeat (first | with_reducible exact Below.refl _ _ | with_reducible exact B1 | with_reducible apply below_drewN | with_reducible apply Below.drew | (with_reducible refine Below.alloc ?_ (by first | (simp; done) | (simp; omega) | omega) _) | (with_reducible refine Below.setCell ?_ (by first | (simp; done) | (simp; omega) | omega) _))))).mono ?_); rintro e w2 ⟨rfl, hb2⟩; have B2 : Below w.heap.size w w2 := bel_step (by repeat (first | with_reducible exact Below.refl _ _ | with_reducible exact B1 | with_reducible apply below_drewN | with_reducible apply Below.drew | (with_reducible refine Below.alloc ?_ (by first | (simp; done) | (simp; omega) | omega) _) | (with_reducible refine Below.setCell ?_ (by first | (simp; done) | (simp; omega) | omega) _))) hb2; obtain ⟨k2_sl_0, g2_sl_0, k2_sl_1, g2_sl_1, k2_sl_2, g2_sl_2, k2_sl_3, g2_sl_3, k2_sl_4, g2_sl_4, k2_sl_5, g2_sl_5, k2_sl_6, g2_sl_6, k2_sl_7, g2_sl_7, k2_sl_8, g2_sl_8, k2_sl_9, g2_sl_9⟩ := hT.below B2; have k2_b4_0 : w2.cell? ⟨w.heap.size, 0, none⟩ = some (.int .u8 0) := bcs hb2 (by go_simp); have g2_b4_0 : w2.frozen? ⟨w.heap.size, 0, none⟩ = false := bfs hb2 (v := .int .u8 0) (by go_simp) (by go_simp); have k2_b4_1 : w2.cell? ⟨w.heap.size, 1, none⟩ = some (.int .u8 0) := bcs hb2 (by go_simp); have g2_b4_1 : w2.frozen? ⟨w.heap.size, 1, none⟩ = false := bfs hb2 (v := .int .u8 0) (by go_simp) (by go_simp); have k2_b4_2 : w2.cell? ⟨w.heap.size, 2, none⟩ = some (.int .u8 0) := bcs hb2 (by go_simp); have g2_b4_2 : w2.frozen? ⟨w.heap.size, 2, none⟩ = false := bfs hb2 (v := .int .u8 0) (by go_simp) (by go_simp); have k2_b4_3 : w2.cell? ⟨w.heap.size, 3, none⟩ = some (.int .u8 0) := bcs hb2 (by go_simp); have g2_b4_3 : w2.frozen? ⟨w.heap.size, 3, none⟩ = false := bfs hb2 (v := .int .u8 0) (by go_simp) (by go_simp); have q2_b4 : w.heap.size < w2.heap.size := qlt k2_b4_0; have x2_b4 : ¬ w.heap.size = w2.heap.size := qne k2_b4_0; have y2_b4 : ¬ w2.heap.size = w.heap.size := fun h => qne k2_b4_0 h.symm; have q2_sl : g < w2.heap.size := qlt k2_sl_0; have x2_sl : ¬ g = w2.heap.size := qne k2_sl_0; have y2_sl : ¬ w2.heap.size = g := fun h => qne k2_sl_0 h.symm; have z2 : w.heap.size + 1 ≤ w2.heap.size := Nat.le_trans (by first | with_reducible assumption | (simp; done) | (simp; omega)) hb2.size; clear hb2; (try clear k1_b4_0); (try clear g1_b4_0); (try clear k1_b4_1); (try clear g1_b4_1); (try clear k1_b4_2); (try clear g1_b4_2); (try clear k1_b4_3); (try clear g1_b4_3); (try clear k1_sl_0); (try clear g1_sl_0); (try clear k1_sl_1); (try clear g1_sl_1); (try clear k1_sl_2); (try clear g1_sl_2); (try clear k1_sl_3); (try clear g1_sl_3); (try clear k1_sl_4); (try clear g1_sl_4); (try clear k1_sl_5); (try clear g1_sl_5); (try clear k1_sl_6); (try clear g1_sl_6); (try clear k1_sl_7); (try clear g1_sl_7); (try clear k1_sl_8); (try clear g1_sl_8); (try clear k1_sl_9); (try clear g1_sl_9); (try clear B1); (try clear z1); (try clear q1_b4); (try clear x1_b4); (try clear y1_b4); (try clear q1_sl); (try clear x1_sl); (try clear y1_sl)))
    refine wp_region_env (fun w' => w'.cell? ⟨w.heap.size, 0, none⟩ = some (.int .u8 0) ∧ w'.frozen? ⟨w.heap.size, 0, none⟩ = false ∧ w'.cell? ⟨w.heap.size, 1, none⟩ = some (.int .u8 0) ∧ w'.frozen? ⟨w.heap.size, 1, none⟩ = false ∧ w'.cell? ⟨w.heap.size, 2, none⟩ = some (.int .u8 0) ∧ w'.frozen? ⟨w.heap.size, 2, none⟩ = false ∧ w'.cell? ⟨w.heap.size, 3, none⟩ = some (.int .u8 0) ∧ w'.frozen? ⟨w.heap.size, 3, none⟩ = false ∧ w'.cell? ⟨g, 0, none⟩ = some (.int .i64 ao) ∧ w'.frozen? ⟨g, 0, none⟩ = false ∧ w'.cell? ⟨g, 1, none⟩ = some (.int .u8 ar) ∧ w'.frozen? ⟨g, 1, none⟩ = false ∧ w'.cell? ⟨g, 2, none⟩ = some (.int .u8 ag) ∧ w'.frozen? ⟨g, 2, none⟩ = false ∧ w'.cell? ⟨g, 3, none⟩ = some (.int .u8 ab) ∧ w'.frozen? ⟨g, 3, none⟩ = false ∧ w'.cell? ⟨g, 4, none⟩ = some (.int .u8 aa) ∧ w'.frozen? ⟨g, 4, none⟩ = false ∧ w'.cell? ⟨g, 5, none⟩ = some (.int .i64 bo) ∧ w'.frozen? ⟨g, 5, none⟩ = false ∧ w'.cell? ⟨g, 6, none⟩ = some (.int .u8 br) ∧ w'.frozen? ⟨g, 6, none⟩ = false ∧ w'.cell? ⟨g, 7, none⟩ = some (.int .u8 bg) ∧ w'.frozen? ⟨g, 7, none⟩ = false ∧ w'.cell? ⟨g, 8, none⟩ = some (.int .u8 bb) ∧ w'.frozen? ⟨g, 8, none⟩ = false ∧ w'.cell? ⟨g, 9, none⟩ = some (.int .u8 ba) ∧ w'.frozen? ⟨g, 9, none⟩ = false) (fun W => W.cell? ⟨w.heap.size, 0, none⟩ = some (.int .u8 0) ∧ W.frozen? ⟨w.heap.size, 0, none⟩ = false ∧ W.cell? ⟨w.heap.size, 1, none⟩ = some (.int .u8 0) ∧ W.frozen? ⟨w.heap.size, 1, none⟩ = false ∧ W.cell? ⟨w.heap.size, 2, none⟩ = some (.int .u8 0) ∧ W.frozen? ⟨w.heap.size, 2, none⟩ = false ∧ W.cell? ⟨w.heap.size, 3, none⟩ = some (.int .u8 0) ∧ W.frozen? ⟨w.heap.size, 3, none⟩ = false ∧ W.cell? ⟨g, 0, none⟩ = some (.int .i64 ao) ∧ W.frozen? ⟨g, 0, none⟩ = false ∧ W.cell? ⟨g, 1, none⟩ = some (.int .u8 ar) ∧ W.frozen? ⟨g, 1, none⟩ = false ∧ W.cell? ⟨g, 2, none⟩ = some (.int .u8 ag) ∧ W.frozen? ⟨g, 2, none⟩ = false ∧ W.cell? ⟨g, 3, none⟩ = some (.int .u8 ab) ∧ W.frozen? ⟨g, 3, none⟩ = false ∧ W.cell? ⟨g, 4, none⟩ = some (.int .u8 aa) ∧ W.frozen? ⟨g, 4, none⟩ = false ∧ W.cell? ⟨g, 5, none⟩ = some (.int .i64 bo) ∧ W.frozen? ⟨g, 5, none⟩ = false ∧ W.cell? ⟨g, 6, none⟩ = some (.int .u8 br) ∧ W.frozen? ⟨g, 6, none⟩ = false ∧ W.cell? ⟨g, 7, none⟩ = some (.int .u8 bg) ∧ W.frozen? ⟨g, 7, none⟩ = false ∧ W.cell? ⟨g, 8, none⟩ = some (.int .u8 bb) ∧ W.frozen? ⟨g, 8, none⟩ = false ∧ W.cell? ⟨g, 9, none⟩ = some (.int .u8 ba) ∧ W.frozen? ⟨g, 9, none⟩ = false ∧ Below w.heap.size w W ∧ w.heap.size + 1 ≤ W.heap.size) 31 61 [.val (.slice (some ⟨g, 0, none⟩) 2 c), .val (.int .i64 0), .val (.pointer (some ⟨g, 0, none⟩)), .val (.pointer (some ⟨g, 1, none⟩)), .val (.agg #[.int .u8 ar, .int .u8 ag, .int .u8 ab, .int .u8 aa]), .val (.slice (some ⟨g, 0, none⟩) 2 c), .val (.int .i64 0), .val (.int .i64 1), .val (.pointer (some ⟨g, 5, none⟩)), .val (.pointer (some ⟨g, 6, none⟩)), .val (.agg #[.int .u8 br, .int .u8 bg, .int .u8 bb, .int .u8 ba]), .val (.int .i64 t), .val (.slice (some ⟨g, 0, none⟩) 2 c), .val (.int .i64 0), .val (.pointer (some ⟨g, 0, none⟩)), .val (.pointer (some ⟨g, 0, none⟩)), .val (.int .i64 ao), .val (.int .i64 (t - ao)), .val (.slice (some ⟨g, 0, none⟩) 2 c), .val (.int .i64 0), .val (.int .i64 1), .val (.pointer (some ⟨g, 5, none⟩)), .val (.pointer (some ⟨g, 5, none⟩)), .val (.int .i64 bo), .val (.slice (some ⟨g, 0, none⟩) 2 c), .val (.int .i64 0), .val (.pointer (some ⟨g, 0, none⟩)), .val (.pointer (some ⟨g, 0, none⟩)), .val (.int .i64 ao), .val (.int .i64 (bo - ao)), .call 20 #[.agg #[.int .u8 ar, .int .u8 ag, .int .u8 ab, .int .u8 aa], .agg #[.int .u8 br, .int .u8 bg, .int .u8 bb, .int .u8 ba], .int .i64 (t - ao), .int .i64 (bo - ao)] (.agg #[.int .u8 l0, .int .u8 l1, .int .u8 l2, .int .u8 l3])] (by kernel_rfl) (by kernel_rfl) rfl (by kernel_rfl) (by rintro w1 w2 ⟨h0, h1, h2, h3, h4, h5, h6, h7, h8, h9, h10, h11, h12, h13, h14, h15, h16, h17, h18, h19, h20, h21, h22, h23, h24, h25, h26, h27⟩ hb; exact ⟨bcs hb h0, bfs hb h0 h1, bcs hb h2, bfs hb h2 h3, bcs hb h4, bfs hb h4 h5, bcs hb h6, bfs hb h6 h7, bcs hb h8, bfs hb h8 h9, bcs hb h10, bfs hb h10 h11, bcs hb h12, bfs hb h12 h13, bcs hb h14, bfs hb h14 h15, bcs hb h16, bfs hb h16 h17, bcs hb h18, bfs hb h18 h19, bcs hb h20, bfs hb h20 h21, bcs hb h22, bfs hb h22 h23, bcs hb h24, bfs hb h24 h25, bcs hb h26, bfs hb h26 h27⟩) ⟨by first | with_reducible assumption | go_simp, by first | with_reducible assumption | go_simp, by first | with_reducible assumption | go_simp, by first | with_reducible assumption | go_simp, by first | with_reducible assumption | go_simp, by first | with_reducible assumption | go_simp, by first | with_reducible assumption | go_simp, by first | with_reducible assumption | go_simp, by first | with_reducible assumption | go_simp, by first | with_reducible assumption | go_simp, by first | with_reducible assumption | go_simp, by first | with_reducible assumption | go_simp, by first | with_reducible assumption | go_simp, by first | with_reducible assumption | go_simp, by first | with_reducible assumption | go_simp, by first | with_reducible assumption | go_simp, by first | with_reducible assumption | go_simp, by first | with_reducible assumption | go_simp, by first | with_reducible assumption | go_simp, by first | with_reducible assumption | go_simp, by first | with_reducible assumption | go_simp, by first | with_reducible assumption | go_simp, by first | with_reducible assumption | go_simp, by first | with_reducible assumption | go_simp, by first | with_reducible assumption | go_simp, by first | with_reducible assumption | go_simp, by first | with_reducible assumption | go_simp, by first | with_reducible assumption | go_simp, by repeat (first | with_reducible exact Below.refl _ _ | with_reducible exact B2 | with_reducible apply below_drewN | with_reducible apply Below.drew | (with_reducible refine Below.alloc ?_ (by first | (simp; done) | (simp; omega) | omega) _) | (with_reducible refine Below.setCell ?_ (by first | (simp; done) | (simp; omega) | omega) _)), by first | with_reducible assumption | (simp; done) | (simp; omega)⟩ ?_ ?_
    · rintro W ⟨k3_b4_0, g3_b4_0, k3_b4_1, g3_b4_1, k3_b4_2, g3_b4_2, k3_b4_3, g3_b4_3, k3_sl_0, g3_sl_0, k3_sl_1, g3_sl_1, k3_sl_2, g3_sl_2, k3_sl_3, g3_sl_3, k3_sl_4, g3_sl_4, k3_sl_5, g3_sl_5, k3_sl_6, g3_sl_6, k3_sl_7, g3_sl_7, k3_sl_8, g3_sl_8, k3_sl_9, g3_sl_9, B3, z3⟩; exact ⟨k3_b4_0, g3_b4_0, k3_b4_1, g3_b4_1, k3_b4_2, g3_b4_2, k3_b4_3, g3_b4_3, k3_sl_0, g3_sl_0, k3_sl_1, g3_sl_1, k3_sl_2, g3_sl_2, k3_sl_3, g3_sl_3, k3_sl_4, g3_sl_4, k3_sl_5, g3_sl_5, k3_sl_6, g3_sl_6, k3_sl_7, g3_sl_7, k3_sl_8, g3_sl_8, k3_sl_9, g3_sl_9⟩
    (try clear B2)
    (try clear z2)
    (try clear k2_b4_0)
    (try clear g2_b4_0)
    (try clear k2_b4_1)
    (try clear g2_b4_1)
    (try clear k2_b4_2)
    (try clear g2_b4_2)
    (try clear k2_b4_3)
    (try clear g2_b4_3)
    (try clear k2_sl_0)
    (try clear g2_sl_0)
    (try clear k2_sl_1)
    (try clear g2_sl_1)
    (try clear k2_sl_2)
    (try clear g2_sl_2)
    (try clear k2_sl_3)
    (try clear g2_sl_3)
    (try clear k2_sl_4)
    (try clear g2_sl_4)
    (try clear k2_sl_5)
    (try clear g2_sl_5)
    (try clear k2_sl_6)
    (try clear g2_sl_6)
    (try clear k2_sl_7)
    (try clear g2_sl_7)
    (try clear k2_sl_8)
    (try clear g2_sl_8)
    (try clear k2_sl_9)
    (try clear g2_sl_9)
    (try clear q2_b4)
    (try clear x2_b4)
    (try clear y2_b4)
    (try clear q2_sl)
    (try clear x2_sl)
    (try clear y2_sl)
    rintro w3 ⟨k3_b4_0, g3_b4_0, k3_b4_1, g3_b4_1, k3_b4_2, g3_b4_2, k3_b4_3, g3_b4_3, k3_sl_0, g3_sl_0, k3_sl_1, g3_sl_1, k3_sl_2, g3_sl_2, k3_sl_3, g3_sl_3, k3_sl_4, g3_sl_4, k3_sl_5, g3_sl_5, k3_sl_6, g3_sl_6, k3_sl_7, g3_sl_7, k3_sl_8, g3_sl_8, k3_sl_9, g3_sl_9, B3, z3⟩ gg
    simp only [List.take_succ_cons, List.take_zero, List.drop_succ_cons, List.drop_zero, List.cons_append, List.nil_append, List.append_nil]
    refine obe_val (by rfl) ?_ ?_
    · clear k3_b4_0 g3_b4_0 k3_b4_1 g3_b4_1 k3_b4_2 g3_b4_2 k3_b4_3 g3_b4_3 k3_sl_0 g3_sl_0 k3_sl_1 g3_sl_1 k3_sl_2 g3_sl_2 k3_sl_3 g3_sl_3 k3_sl_4 g3_sl_4 k3_sl_5 g3_sl_5 k3_sl_6 g3_sl_6 k3_sl_7 g3_sl_7 k3_sl_8 g3_sl_8 k3_sl_9 g3_sl_9 B3 z3; intro f hf; have u0 : f 0 = (.slice (some ⟨g, 0, none⟩) 2 c) := (by rw [← hf]; rfl); clear hf; rintro w' ⟨h0, h1, h2, h3, h4, h5, h6, h7, h8, h9, h10, h11, h12, h13, h14, h15, h16, h17, h18, h19, h20, h21, h22, h23, h24, h25, h26, h27⟩; go_simp; try exact IntWalk.i64_in _ (by omega)
    refine obe_val (by rfl) ?_ ?_
    · clear k3_b4_0 g3_b4_0 k3_b4_1 g3_b4_1 k3_b4_2 g3_b4_2 k3_b4_3 g3_b4_3 k3_sl_0 g3_sl_0 k3_sl_1 g3_sl_1 k3_sl_2 g3_sl_2 k3_sl_3 g3_sl_3 k3_sl_4 g3_sl_4 k3_sl_5 g3_sl_5 k3_sl_6 g3_sl_6 k3_sl_7 g3_sl_7 k3_sl_8 g3_sl_8 k3_sl_9 g3_sl_9 B3 z3; intro f hf; have u5 : f 5 = (.int .i64 0) := (by rw [← hf]; rfl); clear hf; rintro w' ⟨h0, h1, h2, h3, h4, h5, h6, h7, h8, h9, h10, h11, h12, h13, h14, h15, h16, h17, h18, h19, h20, h21, h22, h23, h24, h25, h26, h27⟩; go_simp; try exact IntWalk.i64_in _ (by omega)
    refine obe_val (by rfl) ?_ ?_
    · clear k3_b4_0 g3_b4_0 k3_b4_1 g3_b4_1 k3_b4_2 g3_b4_2 k3_b4_3 g3_b4_3 k3_sl_0 g3_sl_0 k3_sl_1 g3_sl_1 k3_sl_2 g3_sl_2 k3_sl_3 g3_sl_3 k3_sl_4 g3_sl_4 k3_sl_5 g3_sl_5 k3_sl_6 g3_sl_6 k3_sl_7 g3_sl_7 k3_sl_8 g3_sl_8 k3_sl_9 g3_sl_9 B3 z3; intro f hf; have u30 : f 30 = (.slice (some ⟨g, 0, none⟩) 2 c) := (by rw [← hf]; rfl); have u31 : f 31 = (.int .i64 0) := (by rw [← hf]; rfl); clear hf; rintro w' ⟨h0, h1, h2, h3, h4, h5, h6, h7, h8, h9, h10, h11, h12, h13, h14, h15, h16, h17, h18, h19, h20, h21, h22, h23, h24, h25, h26, h27⟩; go_simp; try exact IntWalk.i64_in _ (by omega)
    refine obe_val (by rfl) ?_ ?_
    · clear k3_b4_0 g3_b4_0 k3_b4_1 g3_b4_1 k3_b4_2 g3_b4_2 k3_b4_3 g3_b4_3 k3_sl_0 g3_sl_0 k3_sl_1 g3_sl_1 k3_sl_2 g3_sl_2 k3_sl_3 g3_sl_3 k3_sl_4 g3_sl_4 k3_sl_5 g3_sl_5 k3_sl_6 g3_sl_6 k3_sl_7 g3_sl_7 k3_sl_8 g3_sl_8 k3_sl_9 g3_sl_9 B3 z3; intro f hf; have u32 : f 32 = (.pointer (some ⟨g, 0, none⟩)) := (by rw [← hf]; rfl); clear hf; rintro w' ⟨h0, h1, h2, h3, h4, h5, h6, h7, h8, h9, h10, h11, h12, h13, h14, h15, h16, h17, h18, h19, h20, h21, h22, h23, h24, h25, h26, h27⟩; go_simp; try exact IntWalk.i64_in _ (by omega)
    refine obe_val (by rfl) ?_ ?_
    · clear k3_b4_0 g3_b4_0 k3_b4_1 g3_b4_1 k3_b4_2 g3_b4_2 k3_b4_3 g3_b4_3 k3_sl_0 g3_sl_0 k3_sl_1 g3_sl_1 k3_sl_2 g3_sl_2 k3_sl_3 g3_sl_3 k3_sl_4 g3_sl_4 k3_sl_5 g3_sl_5 k3_sl_6 g3_sl_6 k3_sl_7 g3_sl_7 k3_sl_8 g3_sl_8 k3_sl_9 g3_sl_9 B3 z3; intro f hf; have u33 : f 33 = (.pointer (some ⟨g, 1, none⟩)) := (by rw [← hf]; rfl); clear hf; rintro w' ⟨h0, h1, h2, h3, h4, h5, h6, h7, h8, h9, h10, h11, h12, h13, h14, h15, h16, h17, h18, h19, h20, h21, h22, h23, h24, h25, h26, h27⟩; go_simp; try exact IntWalk.i64_in _ (by omega)
    refine obe_val (by rfl) ?_ ?_
    · clear k3_b4_0 g3_b4_0 k3_b4_1 g3_b4_1 k3_b4_2 g3_b4_2 k3_b4_3 g3_b4_3 k3_sl_0 g3_sl_0 k3_sl_1 g3_sl_1 k3_sl_2 g3_sl_2 k3_sl_3 g3_sl_3 k3_sl_4 g3_sl_4 k3_sl_5 g3_sl_5 k3_sl_6 g3_sl_6 k3_sl_7 g3_sl_7 k3_sl_8 g3_sl_8 k3_sl_9 g3_sl_9 B3 z3; intro f hf; have u0 : f 0 = (.slice (some ⟨g, 0, none⟩) 2 c) := (by rw [← hf]; rfl); clear hf; rintro w' ⟨h0, h1, h2, h3, h4, h5, h6, h7, h8, h9, h10, h11, h12, h13, h14, h15, h16, h17, h18, h19, h20, h21, h22, h23, h24, h25, h26, h27⟩; go_simp; try exact IntWalk.i64_in _ (by omega)
    refine obe_val (by rfl) ?_ ?_
    · clear k3_b4_0 g3_b4_0 k3_b4_1 g3_b4_1 k3_b4_2 g3_b4_2 k3_b4_3 g3_b4_3 k3_sl_0 g3_sl_0 k3_sl_1 g3_sl_1 k3_sl_2 g3_sl_2 k3_sl_3 g3_sl_3 k3_sl_4 g3_sl_4 k3_sl_5 g3_sl_5 k3_sl_6 g3_sl_6 k3_sl_7 g3_sl_7 k3_sl_8 g3_sl_8 k3_sl_9 g3_sl_9 B3 z3; intro f hf; have u5 : f 5 = (.int .i64 0) := (by rw [← hf]; rfl); clear hf; rintro w' ⟨h0, h1, h2, h3, h4, h5, h6, h7, h8, h9, h10, h11, h12, h13, h14, h15, h16, h17, h18, h19, h20, h21, h22, h23, h24, h25, h26, h27⟩; go_simp; try exact IntWalk.i64_in _ (by omega)
    refine obe_val (by rfl) ?_ ?_
    · clear k3_b4_0 g3_b4_0 k3_b4_1 g3_b4_1 k3_b4_2 g3_b4_2 k3_b4_3 g3_b4_3 k3_sl_0 g3_sl_0 k3_sl_1 g3_sl_1 k3_sl_2 g3_sl_2 k3_sl_3 g3_sl_3 k3_sl_4 g3_sl_4 k3_sl_5 g3_sl_5 k3_sl_6 g3_sl_6 k3_sl_7 g3_sl_7 k3_sl_8 g3_sl_8 k3_sl_9 g3_sl_9 B3 z3; intro f hf; have u36 : f 36 = (.int .i64 0) := (by rw [← hf]; rfl); clear hf; rintro w' ⟨h0, h1, h2, h3, h4, h5, h6, h7, h8, h9, h10, h11, h12, h13, h14, h15, h16, h17, h18, h19, h20, h21, h22, h23, h24, h25, h26, h27⟩; go_simp; try exact IntWalk.i64_in _ (by omega)
    refine obe_val (by rfl) ?_ ?_
    · clear k3_b4_0 g3_b4_0 k3_b4_1 g3_b4_1 k3_b4_2 g3_b4_2 k3_b4_3 g3_b4_3 k3_sl_0 g3_sl_0 k3_sl_1 g3_sl_1 k3_sl_2 g3_sl_2 k3_sl_3 g3_sl_3 k3_sl_4 g3_sl_4 k3_sl_5 g3_sl_5 k3_sl_6 g3_sl_6 k3_sl_7 g3_sl_7 k3_sl_8 g3_sl_8 k3_sl_9 g3_sl_9 B3 z3; intro f hf; have u35 : f 35 = (.slice (some ⟨g, 0, none⟩) 2 c) := (by rw [← hf]; rfl); have u37 : f 37 = (.int .i64 1) := (by rw [← hf]; rfl); clear hf; rintro w' ⟨h0, h1, h2, h3, h4, h5, h6, h7, h8, h9, h10, h11, h12, h13, h14, h15, h16, h17, h18, h19, h20, h21, h22, h23, h24, h25, h26, h27⟩; go_simp; try exact IntWalk.i64_in _ (by omega)
    refine obe_val (by rfl) ?_ ?_
    · clear k3_b4_0 g3_b4_0 k3_b4_1 g3_b4_1 k3_b4_2 g3_b4_2 k3_b4_3 g3_b4_3 k3_sl_0 g3_sl_0 k3_sl_1 g3_sl_1 k3_sl_2 g3_sl_2 k3_sl_3 g3_sl_3 k3_sl_4 g3_sl_4 k3_sl_5 g3_sl_5 k3_sl_6 g3_sl_6 k3_sl_7 g3_sl_7 k3_sl_8 g3_sl_8 k3_sl_9 g3_sl_9 B3 z3; intro f hf; have u38 : f 38 = (.pointer (some ⟨g, 5, none⟩)) := (by rw [← hf]; rfl); clear hf; rintro w' ⟨h0, h1, h2, h3, h4, h5, h6, h7, h8, h9, h10, h11, h12, h13, h14, h15, h16, h17, h18, h19, h20, h21, h22, h23, h24, h25, h26, h27⟩; go_simp; try exact IntWalk.i64_in _ (by omega)
    refine obe_val (by rfl) ?_ ?_
    · clear k3_b4_0 g3_b4_0 k3_b4_1 g3_b4_1 k3_b4_2 g3_b4_2 k3_b4_3 g3_b4_3 k3_sl_0 g3_sl_0 k3_sl_1 g3_sl_1 k3_sl_2 g3_sl_2 k3_sl_3 g3_sl_3 k3_sl_4 g3_sl_4 k3_sl_5 g3_sl_5 k3_sl_6 g3_sl_6 k3_sl_7 g3_sl_7 k3_sl_8 g3_sl_8 k3_sl_9 g3_sl_9 B3 z3; intro f hf; have u39 : f 39 = (.pointer (some ⟨g, 6, none⟩)) := (by rw [← hf]; rfl); clear hf; rintro w' ⟨h0, h1, h2, h3, h4, h5, h6, h7, h8, h9, h10, h11, h12, h13, h14, h15, h16, h17, h18, h19, h20, h21, h22, h23, h24, h25, h26, h27⟩; go_simp; try exact IntWalk.i64_in _ (by omega)
    refine obe_val (by rfl) ?_ ?_
    · clear k3_b4_0 g3_b4_0 k3_b4_1 g3_b4_1 k3_b4_2 g3_b4_2 k3_b4_3 g3_b4_3 k3_sl_0 g3_sl_0 k3_sl_1 g3_sl_1 k3_sl_2 g3_sl_2 k3_sl_3 g3_sl_3 k3_sl_4 g3_sl_4 k3_sl_5 g3_sl_5 k3_sl_6 g3_sl_6 k3_sl_7 g3_sl_7 k3_sl_8 g3_sl_8 k3_sl_9 g3_sl_9 B3 z3; intro f hf; have u1 : f 1 = (.int .i64 t) := (by rw [← hf]; rfl); clear hf; rintro w' ⟨h0, h1, h2, h3, h4, h5, h6, h7, h8, h9, h10, h11, h12, h13, h14, h15, h16, h17, h18, h19, h20, h21, h22, h23, h24, h25, h26, h27⟩; go_simp; try exact IntWalk.i64_in _ (by omega)
    refine obe_val (by rfl) ?_ ?_
    · clear k3_b4_0 g3_b4_0 k3_b4_1 g3_b4_1 k3_b4_2 g3_b4_2 k3_b4_3 g3_b4_3 k3_sl_0 g3_sl_0 k3_sl_1 g3_sl_1 k3_sl_2 g3_sl_2 k3_sl_3 g3_sl_3 k3_sl_4 g3_sl_4 k3_sl_5 g3_sl_5 k3_sl_6 g3_sl_6 k3_sl_7 g3_sl_7 k3_sl_8 g3_sl_8 k3_sl_9 g3_sl_9 B3 z3; intro f hf; have u0 : f 0 = (.slice (some ⟨g, 0, none⟩) 2 c) := (by rw [← hf]; rfl); clear hf; rintro w' ⟨h0, h1, h2, h3, h4, h5, h6, h7, h8, h9, h10, h11, h12, h13, h14, h15, h16, h17, h18, h19, h20, h21, h22, h23, h24, h25, h26, h27⟩; go_simp; try exact IntWalk.i64_in _ (by omega)
    refine obe_val (by rfl) ?_ ?_
    · clear k3_b4_0 g3_b4_0 k3_b4_1 g3_b4_1 k3_b4_2 g3_b4_2 k3_b4_3 g3_b4_3 k3_sl_0 g3_sl_0 k3_sl_1 g3_sl_1 k3_sl_2 g3_sl_2 k3_sl_3 g3_sl_3 k3_sl_4 g3_sl_4 k3_sl_5 g3_sl_5 k3_sl_6 g3_sl_6 k3_sl_7 g3_sl_7 k3_sl_8 g3_sl_8 k3_sl_9 g3_sl_9 B3 z3; intro f hf; have u5 : f 5 = (.int .i64 0) := (by rw [← hf]; rfl); clear hf; rintro w' ⟨h0, h1, h2, h3, h4, h5, h6, h7, h8, h9, h10, h11, h12, h13, h14, h15, h16, h17, h18, h19, h20, h21, h22, h23, h24, h25, h26, h27⟩; go_simp; try exact IntWalk.i64_in _ (by omega)
    refine obe_val (by rfl) ?_ ?_
    · clear k3_b4_0 g3_b4_0 k3_b4_1 g3_b4_1 k3_b4_2 g3_b4_2 k3_b4_3 g3_b4_3 k3_sl_0 g3_sl_0 k3_sl_1 g3_sl_1 k3_sl_2 g3_sl_2 k3_sl_3 g3_sl_3 k3_sl_4 g3_sl_4 k3_sl_5 g3_sl_5 k3_sl_6 g3_sl_6 k3_sl_7 g3_sl_7 k3_sl_8 g3_sl_8 k3_sl_9 g3_sl_9 B3 z3; intro f hf; have u42 : f 42 = (.slice (some ⟨g, 0, none⟩) 2 c) := (by rw [← hf]; rfl); have u43 : f 43 = (.int .i64 0) := (by rw [← hf]; rfl); clear hf; rintro w' ⟨h0, h1, h2, h3, h4, h5, h6, h7, h8, h9, h10, h11, h12, h13, h14, h15, h16, h17, h18, h19, h20, h21, h22, h23, h24, h25, h26, h27⟩; go_simp; try exact IntWalk.i64_in _ (by omega)
    refine obe_val (by rfl) ?_ ?_
    · clear k3_b4_0 g3_b4_0 k3_b4_1 g3_b4_1 k3_b4_2 g3_b4_2 k3_b4_3 g3_b4_3 k3_sl_0 g3_sl_0 k3_sl_1 g3_sl_1 k3_sl_2 g3_sl_2 k3_sl_3 g3_sl_3 k3_sl_4 g3_sl_4 k3_sl_5 g3_sl_5 k3_sl_6 g3_sl_6 k3_sl_7 g3_sl_7 k3_sl_8 g3_sl_8 k3_sl_9 g3_sl_9 B3 z3; intro f hf; have u44 : f 44 = (.pointer (some ⟨g, 0, none⟩)) := (by rw [← hf]; rfl); clear hf; rintro w' ⟨h0, h1, h2, h3, h4, h5, h6, h7, h8, h9, h10, h11, h12, h13, h14, h15, h16, h17, h18, h19, h20, h21, h22, h23, h24, h25, h26, h27⟩; go_simp; try exact IntWalk.i64_in _ (by omega)
    refine obe_val (by rfl) ?_ ?_
    · clear k3_b4_0 g3_b4_0 k3_b4_1 g3_b4_1 k3_b4_2 g3_b4_2 k3_b4_3 g3_b4_3 k3_sl_0 g3_sl_0 k3_sl_1 g3_sl_1 k3_sl_2 g3_sl_2 k3_sl_3 g3_sl_3 k3_sl_4 g3_sl_4 k3_sl_5 g3_sl_5 k3_sl_6 g3_sl_6 k3_sl_7 g3_sl_7 k3_sl_8 g3_sl_8 k3_sl_9 g3_sl_9 B3 z3; intro f hf; have u45 : f 45 = (.pointer (some ⟨g, 0, none⟩)) := (by rw [← hf]; rfl); clear hf; rintro w' ⟨h0, h1, h2, h3, h4, h5, h6, h7, h8, h9, h10, h11, h12, h13, h14, h15, h16, h17, h18, h19, h20, h21, h22, h23, h24, h25, h26, h27⟩; go_simp; try exact IntWalk.i64_in _ (by omega)
    refine obe_val (by rfl) ?_ ?_
    · clear k3_b4_0 g3_b4_0 k3_b4_1 g3_b4_1 k3_b4_2 g3_b4_2 k3_b4_3 g3_b4_3 k3_sl_0 g3_sl_0 k3_sl_1 g3_sl_1 k3_sl_2 g3_sl_2 k3_sl_3 g3_sl_3 k3_sl_4 g3_sl_4 k3_sl_5 g3_sl_5 k3_sl_6 g3_sl_6 k3_sl_7 g3_sl_7 k3_sl_8 g3_sl_8 k3_sl_9 g3_sl_9 B3 z3; intro f hf; have u41 : f 41 = (.int .i64 t) := (by rw [← hf]; rfl); have u46 : f 46 = (.int .i64 ao) := (by rw [← hf]; rfl); clear hf; rintro w' ⟨h0, h1, h2, h3, h4, h5, h6, h7, h8, h9, h10, h11, h12, h13, h14, h15, h16, h17, h18, h19, h20, h21, h22, h23, h24, h25, h26, h27⟩; go_simp; try exact IntWalk.i64_in _ (by omega)
    refine obe_val (by rfl) ?_ ?_
    · clear k3_b4_0 g3_b4_0 k3_b4_1 g3_b4_1 k3_b4_2 g3_b4_2 k3_b4_3 g3_b4_3 k3_sl_0 g3_sl_0 k3_sl_1 g3_sl_1 k3_sl_2 g3_sl_2 k3_sl_3 g3_sl_3 k3_sl_4 g3_sl_4 k3_sl_5 g3_sl_5 k3_sl_6 g3_sl_6 k3_sl_7 g3_sl_7 k3_sl_8 g3_sl_8 k3_sl_9 g3_sl_9 B3 z3; intro f hf; have u0 : f 0 = (.slice (some ⟨g, 0, none⟩) 2 c) := (by rw [← hf]; rfl); clear hf; rintro w' ⟨h0, h1, h2, h3, h4, h5, h6, h7, h8, h9, h10, h11, h12, h13, h14, h15, h16, h17, h18, h19, h20, h21, h22, h23, h24, h25, h26, h27⟩; go_simp; try exact IntWalk.i64_in _ (by omega)
    refine obe_val (by rfl) ?_ ?_
    · clear k3_b4_0 g3_b4_0 k3_b4_1 g3_b4_1 k3_b4_2 g3_b4_2 k3_b4_3 g3_b4_3 k3_sl_0 g3_sl_0 k3_sl_1 g3_sl_1 k3_sl_2 g3_sl_2 k3_sl_3 g3_sl_3 k3_sl_4 g3_sl_4 k3_sl_5 g3_sl_5 k3_sl_6 g3_sl_6 k3_sl_7 g3_sl_7 k3_sl_8 g3_sl_8 k3_sl_9 g3_sl_9 B3 z3; intro f hf; have u5 : f 5 = (.int .i64 0) := (by rw [← hf]; rfl); clear hf; rintro w' ⟨h0, h1, h2, h3, h4, h5, h6, h7, h8, h9, h10, h11, h12, h13, h14, h15, h16, h17, h18, h19, h20, h21, h22, h23, h24, h25, h26, h27⟩; go_simp; try exact IntWalk.i64_in _ (by omega)
    refine obe_val (by rfl) ?_ ?_
    · clear k3_b4_0 g3_b4_0 k3_b4_1 g3_b4_1 k3_b4_2 g3_b4_2 k3_b4_3 g3_b4_3 k3_sl_0 g3_sl_0 k3_sl_1 g3_sl_1 k3_sl_2 g3_sl_2 k3_sl_3 g3_sl_3 k3_sl_4 g3_sl_4 k3_sl_5 g3_sl_5 k3_sl_6 g3_sl_6 k3_sl_7 g3_sl_7 k3_sl_8 g3_sl_8 k3_sl_9 g3_sl_9 B3 z3; intro f hf; have u49 : f 49 = (.int .i64 0) := (by rw [← hf]; rfl); clear hf; rintro w' ⟨h0, h1, h2, h3, h4, h5, h6, h7, h8, h9, h10, h11, h12, h13, h14, h15, h16, h17, h18, h19, h20, h21, h22, h23, h24, h25, h26, h27⟩; go_simp; try exact IntWalk.i64_in _ (by omega)
    refine obe_val (by rfl) ?_ ?_
    · clear k3_b4_0 g3_b4_0 k3_b4_1 g3_b4_1 k3_b4_2 g3_b4_2 k3_b4_3 g3_b4_3 k3_sl_0 g3_sl_0 k3_sl_1 g3_sl_1 k3_sl_2 g3_sl_2 k3_sl_3 g3_sl_3 k3_sl_4 g3_sl_4 k3_sl_5 g3_sl_5 k3_sl_6 g3_sl_6 k3_sl_7 g3_sl_7 k3_sl_8 g3_sl_8 k3_sl_9 g3_sl_9 B3 z3; intro f hf; have u48 : f 48 = (.slice (some ⟨g, 0, none⟩) 2 c) := (by rw [← hf]; rfl); have u50 : f 50 = (.int .i64 1) := (by rw [← hf]; rfl); clear hf; rintro w' ⟨h0, h1, h2, h3, h4, h5, h6, h7, h8, h9, h10, h11, h12, h13, h14, h15, h16, h17, h18, h19, h20, h21, h22, h23, h24, h25, h26, h27⟩; go_simp; try exact IntWalk.i64_in _ (by omega)
    refine obe_val (by rfl) ?_ ?_
    · clear k3_b4_0 g3_b4_0 k3_b4_1 g3_b4_1 k3_b4_2 g3_b4_2 k3_b4_3 g3_b4_3 k3_sl_0 g3_sl_0 k3_sl_1 g3_sl_1 k3_sl_2 g3_sl_2 k3_sl_3 g3_sl_3 k3_sl_4 g3_sl_4 k3_sl_5 g3_sl_5 k3_sl_6 g3_sl_6 k3_sl_7 g3_sl_7 k3_sl_8 g3_sl_8 k3_sl_9 g3_sl_9 B3 z3; intro f hf; have u51 : f 51 = (.pointer (some ⟨g, 5, none⟩)) := (by rw [← hf]; rfl); clear hf; rintro w' ⟨h0, h1, h2, h3, h4, h5, h6, h7, h8, h9, h10, h11, h12, h13, h14, h15, h16, h17, h18, h19, h20, h21, h22, h23, h24, h25, h26, h27⟩; go_simp; try exact IntWalk.i64_in _ (by omega)
    refine obe_val (by rfl) ?_ ?_
    · clear k3_b4_0 g3_b4_0 k3_b4_1 g3_b4_1 k3_b4_2 g3_b4_2 k3_b4_3 g3_b4_3 k3_sl_0 g3_sl_0 k3_sl_1 g3_sl_1 k3_sl_2 g3_sl_2 k3_sl_3 g3_sl_3 k3_sl_4 g3_sl_4 k3_sl_5 g3_sl_5 k3_sl_6 g3_sl_6 k3_sl_7 g3_sl_7 k3_sl_8 g3_sl_8 k3_sl_9 g3_sl_9 B3 z3; intro f hf; have u52 : f 52 = (.pointer (some ⟨g, 5, none⟩)) := (by rw [← hf]; rfl); clear hf; rintro w' ⟨h0, h1, h2, h3, h4, h5, h6, h7, h8, h9, h10, h11, h12, h13, h14, h15, h16, h17, h18, h19, h20, h21, h22, h23, h24, h25, h26, h27⟩; go_simp; try exact IntWalk.i64_in _ (by omega)
    refine obe_val (by rfl) ?_ ?_
    · clear k3_b4_0 g3_b4_0 k3_b4_1 g3_b4_1 k3_b4_2 g3_b4_2 k3_b4_3 g3_b4_3 k3_sl_0 g3_sl_0 k3_sl_1 g3_sl_1 k3_sl_2 g3_sl_2 k3_sl_3 g3_sl_3 k3_sl_4 g3_sl_4 k3_sl_5 g3_sl_5 k3_sl_6 g3_sl_6 k3_sl_7 g3_sl_7 k3_sl_8 g3_sl_8 k3_sl_9 g3_sl_9 B3 z3; intro f hf; have u0 : f 0 = (.slice (some ⟨g, 0, none⟩) 2 c) := (by rw [← hf]; rfl); clear hf; rintro w' ⟨h0, h1, h2, h3, h4, h5, h6, h7, h8, h9, h10, h11, h12, h13, h14, h15, h16, h17, h18, h19, h20, h21, h22, h23, h24, h25, h26, h27⟩; go_simp; try exact IntWalk.i64_in _ (by omega)
    refine obe_val (by rfl) ?_ ?_
    · clear k3_b4_0 g3_b4_0 k3_b4_1 g3_b4_1 k3_b4_2 g3_b4_2 k3_b4_3 g3_b4_3 k3_sl_0 g3_sl_0 k3_sl_1 g3_sl_1 k3_sl_2 g3_sl_2 k3_sl_3 g3_sl_3 k3_sl_4 g3_sl_4 k3_sl_5 g3_sl_5 k3_sl_6 g3_sl_6 k3_sl_7 g3_sl_7 k3_sl_8 g3_sl_8 k3_sl_9 g3_sl_9 B3 z3; intro f hf; have u5 : f 5 = (.int .i64 0) := (by rw [← hf]; rfl); clear hf; rintro w' ⟨h0, h1, h2, h3, h4, h5, h6, h7, h8, h9, h10, h11, h12, h13, h14, h15, h16, h17, h18, h19, h20, h21, h22, h23, h24, h25, h26, h27⟩; go_simp; try exact IntWalk.i64_in _ (by omega)
    refine obe_val (by rfl) ?_ ?_
    · clear k3_b4_0 g3_b4_0 k3_b4_1 g3_b4_1 k3_b4_2 g3_b4_2 k3_b4_3 g3_b4_3 k3_sl_0 g3_sl_0 k3_sl_1 g3_sl_1 k3_sl_2 g3_sl_2 k3_sl_3 g3_sl_3 k3_sl_4 g3_sl_4 k3_sl_5 g3_sl_5 k3_sl_6 g3_sl_6 k3_sl_7 g3_sl_7 k3_sl_8 g3_sl_8 k3_sl_9 g3_sl_9 B3 z3; intro f hf; have u54 : f 54 = (.slice (some ⟨g, 0, none⟩) 2 c) := (by rw [← hf]; rfl); have u55 : f 55 = (.int .i64 0) := (by rw [← hf]; rfl); clear hf; rintro w' ⟨h0, h1, h2, h3, h4, h5, h6, h7, h8, h9, h10, h11, h12, h13, h14, h15, h16, h17, h18, h19, h20, h21, h22, h23, h24, h25, h26, h27⟩; go_simp; try exact IntWalk.i64_in _ (by omega)
    refine obe_val (by rfl) ?_ ?_
    · clear k3_b4_0 g3_b4_0 k3_b4_1 g3_b4_1 k3_b4_2 g3_b4_2 k3_b4_3 g3_b4_3 k3_sl_0 g3_sl_0 k3_sl_1 g3_sl_1 k3_sl_2 g3_sl_2 k3_sl_3 g3_sl_3 k3_sl_4 g3_sl_4 k3_sl_5 g3_sl_5 k3_sl_6 g3_sl_6 k3_sl_7 g3_sl_7 k3_sl_8 g3_sl_8 k3_sl_9 g3_sl_9 B3 z3; intro f hf; have u56 : f 56 = (.pointer (some ⟨g, 0, none⟩)) := (by rw [← hf]; rfl); clear hf; rintro w' ⟨h0, h1, h2, h3, h4, h5, h6, h7, h8, h9, h10, h11, h12, h13, h14, h15, h16, h17, h18, h19, h20, h21, h22, h23, h24, h25, h26, h27⟩; go_simp; try exact IntWalk.i64_in _ (by omega)
    refine obe_val (by rfl) ?_ ?_
    · clear k3_b4_0 g3_b4_0 k3_b4_1 g3_b4_1 k3_b4_2 g3_b4_2 k3_b4_3 g3_b4_3 k3_sl_0 g3_sl_0 k3_sl_1 g3_sl_1 k3_sl_2 g3_sl_2 k3_sl_3 g3_sl_3 k3_sl_4 g3_sl_4 k3_sl_5 g3_sl_5 k3_sl_6 g3_sl_6 k3_sl_7 g3_sl_7 k3_sl_8 g3_sl_8 k3_sl_9 g3_sl_9 B3 z3; intro f hf; have u57 : f 57 = (.pointer (some ⟨g, 0, none⟩)) := (by rw [← hf]; rfl); clear hf; rintro w' ⟨h0, h1, h2, h3, h4, h5, h6, h7, h8, h9, h10, h11, h12, h13, h14, h15, h16, h17, h18, h19, h20, h21, h22, h23, h24, h25, h26, h27⟩; go_simp; try exact IntWalk.i64_in _ (by omega)
    refine obe_val (by rfl) ?_ ?_
    · clear k3_b4_0 g3_b4_0 k3_b4_1 g3_b4_1 k3_b4_2 g3_b4_2 k3_b4_3 g3_b4_3 k3_sl_0 g3_sl_0 k3_sl_1 g3_sl_1 k3_sl_2 g3_sl_2 k3_sl_3 g3_sl_3 k3_sl_4 g3_sl_4 k3_sl_5 g3_sl_5 k3_sl_6 g3_sl_6 k3_sl_7 g3_sl_7 k3_sl_8 g3_sl_8 k3_sl_9 g3_sl_9 B3 z3; intro f hf; have u53 : f 53 = (.int .i64 bo) := (by rw [← hf]; rfl); have u58 : f 58 = (.int .i64 ao) := (by rw [← hf]; rfl); clear hf; rintro w' ⟨h0, h1, h2, h3, h4, h5, h6, h7, h8, h9, h10, h11, h12, h13, h14, h15, h16, h17, h18, h19, h20, h21, h22, h23, h24, h25, h26, h27⟩; go_simp; try exact IntWalk.i64_in _ (by omega)
    refine obe_call (by rfl) ?_ ?_ ?_
    · clear k3_b4_0 g3_b4_0 k3_b4_1 g3_b4_1 k3_b4_2 g3_b4_2 k3_b4_3 g3_b4_3 k3_sl_0 g3_sl_0 k3_sl_1 g3_sl_1 k3_sl_2 g3_sl_2 k3_sl_3 g3_sl_3 k3_sl_4 g3_sl_4 k3_sl_5 g3_sl_5 k3_sl_6 g3_sl_6 k3_sl_7 g3_sl_7 k3_sl_8 g3_sl_8 k3_sl_9 g3_sl_9 B3 z3; intro f hf; have u34 : f 34 = (.agg #[.int .u8 ar, .int .u8 ag, .int .u8 ab, .int .u8 aa]) := (by rw [← hf]; rfl); have u40 : f 40 = (.agg #[.int .u8 br, .int .u8 bg, .int .u8 bb, .int .u8 ba]) := (by rw [← hf]; rfl); have u47 : f 47 = (.int .i64 (t - ao)) := (by rw [← hf]; rfl); have u59 : f 59 = (.int .i64 (bo - ao)) := (by rw [← hf]; rfl); clear hf; intro w' _; simp only [execOp, resolve, invoke, rhoF_tmp, rhoF_func, rhoF_const, u34, u40, u47, u59, List.map_toArray, List.map_cons, List.map_nil]; go_simp
    · clear k3_b4_0 g3_b4_0 k3_b4_1 g3_b4_1 k3_b4_2 g3_b4_2 k3_b4_3 g3_b4_3 k3_sl_0 g3_sl_0 k3_sl_1 g3_sl_1 k3_sl_2 g3_sl_2 k3_sl_3 g3_sl_3 k3_sl_4 g3_sl_4 k3_sl_5 g3_sl_5 k3_sl_6 g3_sl_6 k3_sl_7 g3_sl_7 k3_sl_8 g3_sl_8 k3_sl_9 g3_sl_9 B3 z3; rintro w' ⟨h0, h1, h2, h3, h4, h5, h6, h7, h8, h9, h10, h11, h12, h13, h14, h15, h16, h17, h18, h19, h20, h21, h22, h23, h24, h25, h26, h27⟩; exact cc _
    refine obe_nil ?_
    rintro w4 ⟨h0, h1, h2, h3, h4, h5, h6, h7, h8, h9, h10, h11, h12, h13, h14, h15, h16, h17, h18, h19, h20, h21, h22, h23, h24, h25, h26, h27⟩ hb4 hF
    (try simp only [List.nil_append, List.append_nil, List.cons_append] at hF)
    simp only [puts, putD, Act.put, List.setIfInBounds_toArray, List.set_cons_zero, List.set_cons_succ]
    clear hF
    have k4_b4_0 := bcs hb4 k3_b4_0
    have g4_b4_0 := bfs hb4 k3_b4_0 g3_b4_0
    have k4_b4_1 := bcs hb4 k3_b4_1
    have g4_b4_1 := bfs hb4 k3_b4_1 g3_b4_1
    have k4_b4_2 := bcs hb4 k3_b4_2
    have g4_b4_2 := bfs hb4 k3_b4_2 g3_b4_2
    have k4_b4_3 := bcs hb4 k3_b4_3
    have g4_b4_3 := bfs hb4 k3_b4_3 g3_b4_3
    have k4_sl_0 := bcs hb4 k3_sl_0
    have g4_sl_0 := bfs hb4 k3_sl_0 g3_sl_0
    have k4_sl_1 := bcs hb4 k3_sl_1
    have g4_sl_1 := bfs hb4 k3_sl_1 g3_sl_1
    have k4_sl_2 := bcs hb4 k3_sl_2
    have g4_sl_2 := bfs hb4 k3_sl_2 g3_sl_2
    have k4_sl_3 := bcs hb4 k3_sl_3
    have g4_sl_3 := bfs hb4 k3_sl_3 g3_sl_3
    have k4_sl_4 := bcs hb4 k3_sl_4
    have g4_sl_4 := bfs hb4 k3_sl_4 g3_sl_4
    have k4_sl_5 := bcs hb4 k3_sl_5
    have g4_sl_5 := bfs hb4 k3_sl_5 g3_sl_5
    have k4_sl_6 := bcs hb4 k3_sl_6
    have g4_sl_6 := bfs hb4 k3_sl_6 g3_sl_6
    have k4_sl_7 := bcs hb4 k3_sl_7
    have g4_sl_7 := bfs hb4 k3_sl_7 g3_sl_7
    have k4_sl_8 := bcs hb4 k3_sl_8
    have g4_sl_8 := bfs hb4 k3_sl_8 g3_sl_8
    have k4_sl_9 := bcs hb4 k3_sl_9
    have g4_sl_9 := bfs hb4 k3_sl_9 g3_sl_9
    clear h0 h1 h2 h3 h4 h5 h6 h7 h8 h9 h10 h11 h12 h13 h14 h15 h16 h17 h18 h19 h20 h21 h22 h23 h24 h25 h26 h27
    have B4 := bel_step B3 hb4
    have z4 := Nat.le_trans z3 hb4.size
    clear hb4
    (try clear B3)
    (try clear z3)
    (try clear k3_b4_0)
    (try clear g3_b4_0)
    (try clear k3_b4_1)
    (try clear g3_b4_1)
    (try clear k3_b4_2)
    (try clear g3_b4_2)
    (try clear k3_b4_3)
    (try clear g3_b4_3)
    (try clear k3_sl_0)
    (try clear g3_sl_0)
    (try clear k3_sl_1)
    (try clear g3_sl_1)
    (try clear k3_sl_2)
    (try clear g3_sl_2)
    (try clear k3_sl_3)
    (try clear g3_sl_3)
    (try clear k3_sl_4)
    (try clear g3_sl_4)
    (try clear k3_sl_5)
    (try clear g3_sl_5)
    (try clear k3_sl_6)
    (try clear g3_sl_6)
    (try clear k3_sl_7)
    (try clear g3_sl_7)
    (try clear k3_sl_8)
    (try clear g3_sl_8)
    (try clear k3_sl_9)
    (try clear g3_sl_9)
    (try clear q3_b4)
    (try clear x3_b4)
    (try clear y3_b4)
    (try clear q3_sl)
    (try clear x3_sl)
    (try clear y3_sl)
    have q4_b4 : w.heap.size < w4.heap.size := qlt k4_b4_0
    have x4_b4 : ¬ w.heap.size = w4.heap.size := qne k4_b4_0
    have y4_b4 : ¬ w4.heap.size = w.heap.size := fun h => qne k4_b4_0 h.symm
    have q4_sl : g < w4.heap.size := qlt k4_sl_0
    have x4_sl : ¬ g = w4.heap.size := qne k4_sl_0
    have y4_sl : ¬ w4.heap.size = g := fun h => qne k4_sl_0 h.symm
    go_wp2
    refine bodyPost_ret (v := .agg #[.int .u8 l0, .int .u8 l1, .int .u8 l2, .int .u8 l3]) (by simp [results, Try.results10, go_sem, *]) rfl ⟨rfl, ?_⟩
    repeat (first | with_reducible exact Below.refl _ _ | with_reducible exact B4 | with_reducible apply below_drewN | with_reducible apply Below.drew | (with_reducible refine Below.alloc ?_ (by first | (simp; done) | (simp; omega) | omega) _) | (with_reducible refine Below.setCell ?_ (by first | (simp; done) | (simp; omega) | omega) _))
  · rw [if_neg h2] at cl
    simp only [if_neg h2]
    clear hv
    go_enter Try.func10, Try.ntmps10
    go_wp2_with (first | (go_at_call 9; (with_reducible refine (cv _ (hT.below (by repeat (first | with_reducible exact Below.refl _ _ | fail | with_reducible apply below_drewN | with_reducible apply Below.drew | (with_reducible refine Below.alloc ?_ (by first | (simp; done) | (simp; omega) | omega) _) | (with_reducible refine Below.setCell ?_ (by first | (simp; done) | (simp; omega) | omega) _))))).mono ?_); rintro e w1 ⟨rfl, hb1⟩; have B1 : Below w.heap.size w w1 := bel_step (by repeat (first | with_reducible exact Below.refl _ _ | fail | with_reducible apply below_drewN | with_reducible apply Below.drew | (with_reducible refine Below.alloc ?_ (by first | (simp; done) | (simp; omega) | omega) _) | (with_reducible refine Below.setCell ?_ (by first | (simp; done) | (simp; omega) | omega) _))) hb1; obtain ⟨k1_sl_0, g1_sl_0, k1_sl_1, g1_sl_1, k1_sl_2, g1_sl_2, k1_sl_3, g1_sl_3, k1_sl_4, g1_sl_4, k1_sl_5, g1_sl_5, k1_sl_6, g1_sl_6, k1_sl_7, g1_sl_7, k1_sl_8, g1_sl_8, k1_sl_9, g1_sl_9⟩ := hT.below B1; have k1_b4_0 : w1.cell? ⟨w.heap.size, 0, none⟩ = some (.int .u8 0) := bcs hb1 (by go_simp); have g1_b4_0 : w1.frozen? ⟨w.heap.size, 0, none⟩ = false := bfs hb1 (v := .int .u8 0) (by go_simp) (by go_simp); have k1_b4_1 : w1.cell? ⟨w.heap.size, 1, none⟩ = some (.int .u8 0) := bcs hb1 (by go_simp); have g1_b4_1 : w1.frozen? ⟨w.heap.size, 1, none⟩ = false := bfs hb1 (v := .int .u8 0) (by go_simp) (by go_simp); have k1_b4_2 : w1.cell? ⟨w.heap.size, 2, none⟩ = some (.int .u8 0) := bcs hb1 (by go_simp); have g1_b4_2 : w1.frozen? ⟨w.heap.size, 2, none⟩ = false := bfs hb1 (v := .int .u8 0) (by go_simp) (by go_simp); have k1_b4_3 : w1.cell? ⟨w.heap.size, 3, none⟩ = some (.int .u8 0) := bcs hb1 (by go_simp); have g1_b4_3 : w1.frozen? ⟨w.heap.size, 3, none⟩ = false := bfs hb1 (v := .int .u8 0) (by go_simp) (by go_simp); have q1_b4 : w.heap.size < w1.heap.size := qlt k1_b4_0; have x1_b4 : ¬ w.heap.size = w1.heap.size := qne k1_b4_0; have y1_b4 : ¬ w1.heap.size = w.heap.size := fun h => qne k1_b4_0 h.symm; have q1_sl : g < w1.heap.size := qlt k1_sl_0; have x1_sl : ¬ g = w1.heap.size := qne k1_sl_0; have y1_sl : ¬ w1.heap.size = g := fun h => qne k1_sl_0 h.symm; have z1 : w.heap.size + 1 ≤ w1.heap.size := Nat.le_trans (by first | with_reducible assumption | (simp; done) | (simp; omega)) hb1.size; clear hb1) | (go_at_call 19; (with_reducible refine (cl _ (hT.below (by repeat (first | with_reducible exact Below.refl _ _ | with_reducible exact B1 | with_reducible apply below_drewN | with_reducible apply Below.drew | (with_reducible refine Below.alloc ?_ (by first | (simp; done) | (simp; omega) | omega) _) | (with_reducible refine Below.setCell ?_ (by first | (simp; done) | (simp; omega) | omega) _))))).mono ?_); rintro e w2 ⟨rfl, hb2⟩; have B2 : Below w.heap.size w w2 := bel_step (by repeat (first | with_reducible exact Below.refl _ _ | with_reducible exact B1 | with_reducible apply below_drewN | with_reducible apply Below.drew | (with_reducible refine Below.alloc ?_ (by first | (simp; done) | (simp; omega) | omega) _) | (with_reducible refine Below.setCell ?_ (by first | (simp; done) | (simp; omega) | omega) _))) hb2; obtain ⟨k2_sl_0, g2_sl_0, k2_sl_1, g2_sl_1, k2_sl_2, g2_sl_2, k2_sl_3, g2_sl_3, k2_sl_4, g2_sl_4, k2_sl_5, g2_sl_5, k2_sl_6, g2_sl_6, k2_sl_7, g2_sl_7, k2_sl_8, g2_sl_8, k2_sl_9, g2_sl_9⟩ := hT.below B2; have k2_b4_0 : w2.cell? ⟨w.heap.size, 0, none⟩ = some (.int .u8 0) := bcs hb2 (by go_simp); have g2_b4_0 : w2.frozen? ⟨w.heap.size, 0, none⟩ = false := bfs hb2 (v := .int .u8 0) (by go_simp) (by go_simp); have k2_b4_1 : w2.cell? ⟨w.heap.size, 1, none⟩ = some (.int .u8 0) := bcs hb2 (by go_simp); have g2_b4_1 : w2.frozen? ⟨w.heap.size, 1, none⟩ = false := bfs hb2 (v := .int .u8 0) (by go_simp) (by go_simp); have k2_b4_2 : w2.cell? ⟨w.heap.size, 2, none⟩ = some (.int .u8 0) := bcs hb2 (by go_simp); have g2_b4_2 : w2.frozen? ⟨w.heap.size, 2, none⟩ = false := bfs hb2 (v := .int .u8 0) (by go_simp) (by go_simp); have k2_b4_3 : w2.cell? ⟨w.heap.size, 3, none⟩ = some (.int .u8 0) := bcs hb2 (by go_simp); have g2_b4_3 : w2.frozen? ⟨w.heap.size, 3, none⟩ = false := bfs hb2 (v := .int .u8 0) (by go_simp) (by go_simp); have q2_b4 : w.heap.size < w2.heap.size := qlt k2_b4_0; have x2_b4 : ¬ w.heap.size = w2.heap.size := qne k2_b4_0; have y2_b4 : ¬ w2.heap.size = w.heap.size := fun h => qne k2_b4_0 h.symm; have q2_sl : g < w2.heap.size := qlt k2_sl_0; have x2_sl : ¬ g = w2.heap.size := qne k2_sl_0; have y2_sl : ¬ w2.heap.size = g := fun h => qne k2_sl_0 h.symm; have z2 : w.heap.size + 1 ≤ w2.heap.size := Nat.le_trans (by first | with_reducible assumption | (simp; done) | (simp; omega)) hb2.size; clear hb2; (try clear k1_b4_0); (try clear g1_b4_0); (try clear k1_b4_1); (try clear g1_b4_1); (try clear k1_b4_2); (try clear g1_b4_2); (try clear k1_b4_3); (try clear g1_b4_3); (try clear k1_sl_0); (try clear g1_sl_0); (try clear k1_sl_1); (try clear g1_sl_1); (try clear k1_sl_2); (try clear g1_sl_2); (try clear k1_sl_3); (try clear g1_sl_3); (try clear k1_sl_4); (try clear g1_sl_4); (try clear k1_sl_5); (try clear g1_sl_5); (try clear k1_sl_6); (try clear g1_sl_6); (try clear k1_sl_7); (try clear g1_sl_7); (try clear k1_sl_8); (try clear g1_sl_8); (try clear k1_sl_9); (try clear g1_sl_9); (try clear B1); (try clear z1); (try clear q1_b4); (try clear x1_b4); (try clear y1_b4); (try clear q1_sl); (try clear x1_sl); (try clear y1_sl)))
    refine bodyPost_ret (v := .agg #[.int .u8 br, .int .u8 bg, .int .u8 bb, .int .u8 ba]) (by simp [results, Try.results10, go_sem, *]) rfl ⟨rfl, ?_⟩
    repeat (first | with_reducible exact Below.refl _ _ | with_reducible exact B2 | with_reducible apply below_drewN | with_reducible apply Below.drew | (with_reducible refine Below.alloc ?_ (by first | (simp; done) | (simp; omega) | omega) _) | (with_reducible refine Below.setCell ?_ (by first | (simp; done) | (simp; omega) | omega) _))

set_option maxHeartbeats 2000000 in
theorem grey_any (w : World) :
    Calls Try.prog 17 #[] w fun e w' => e = .returned (.slice (some ⟨w.heap.size, 0, none⟩) 2 2) ∧ Two w' w.heap.size 0 0 0 0 255 65536 255 255 255 255 ∧ Below w.heap.size w w' := by
  go_enter Try.func17, Try.ntmps17
  go_wp2
  go_ret
  refine ⟨rfl, ?_, by repeat (first | with_reducible exact Below.refl _ _ | fail | with_reducible apply below_drewN | with_reducible apply Below.drew | (with_reducible refine Below.alloc ?_ (by first | (simp; done) | (simp; omega) | omega) _) | (with_reducible refine Below.setCell ?_ (by first | (simp; done) | (simp; omega) | omega) _))⟩
  have hp := heap_alloc_new w (.cells #[.int .i64 0, .int .u8 0, .int .u8 0, .int .u8 0, .int .u8 255, .int .i64 65536, .int .u8 255, .int .u8 255, .int .u8 255, .int .u8 255] 28)
  exact ⟨cob hp 0 rfl, fob hp 0, cob hp 1 rfl, fob hp 1, cob hp 2 rfl, fob hp 2, cob hp 3 rfl, fob hp 3, cob hp 4 rfl, fob hp 4, cob hp 5 rfl, fob hp 5, cob hp 6 rfl, fob hp 6, cob hp 7 rfl, fob hp 7, cob hp 8 rfl, fob hp 8, cob hp 9 rfl, fob hp 9⟩

set_option maxHeartbeats 4000000 in
theorem gex_any (w : World) : Calls Try.prog 8 #[] w fun e w' => e = .returned (.bool true) ∧ Below w.heap.size w w' := by
  have s1 := fun w => spread_any (-1) 2 (by omega) (by omega) w
  have s2 := fun w => spread_any (-1) 3 (by omega) (by omega) w
  have s3 := fun w => spread_any (-1) 1 (by omega) (by omega) w
  rw [show spV (-1) 2 = 65535 by decide] at s1
  rw [show spV (-1) 3 = 1 by decide] at s2
  rw [show spV (-1) 1 = 0 by decide] at s3
  have cv := fun g w hT => valid2_any g 2 0 0 0 0 255 65536 255 255 255 255 w hT
  rw [show v2 0 65536 = true by decide] at cv
  have cc := fun g w hT => colorAt2_any g 2 0 0 0 0 255 65536 255 255 255 255 32768 (by omega) (by omega) (by omega) (by omega) (by omega) (by omega) (by omega) (by omega) (by omega) (by omega) (by omega) (by omega) (by omega) (by omega) (by omega) (by omega) w hT (by decide) (by omega) (by omega)
  rw [show (if (32768 : Int) < 65536 then lc 0 255 (32768 - 0) (65536 - 0) else 255) = 128 by decide, show (if (32768 : Int) < 65536 then lc 255 255 (32768 - 0) (65536 - 0) else 255) = 255 by decide] at cc
  have B : Below w.heap.size w w := Below.refl _ _
  go_enter Try.func8, Try.ntmps8
  go_wp2_with (first | (go_at_call 17; (with_reducible refine (grey_any _).mono ?_); rintro e w1 ⟨rfl, hT, hb⟩; replace B := bel_step B hb; clear hb) | (go_at_call 9; (with_reducible refine (cv _ _ hT).mono ?_); rintro e w2 ⟨rfl, hb⟩; replace B := bel_step B hb; clear hb hT) | (go_at_call 10; (with_reducible refine (cc _ _ hT).mono ?_); rintro e w3 ⟨rfl, hb⟩; replace B := bel_step B hb; clear hb hT) | (go_at_call 7; first | ((with_reducible refine (s1 _).mono ?_); rintro e w9 ⟨rfl, rfl⟩) | ((with_reducible refine (s2 _).mono ?_); rintro e w9 ⟨rfl, rfl⟩) | ((with_reducible refine (s3 _).mono ?_); rintro e w9 ⟨rfl, rfl⟩)))
  go_ret
  exact ⟨rfl, B⟩
end Go.Proofs.Ytcklplodbdbciaa
