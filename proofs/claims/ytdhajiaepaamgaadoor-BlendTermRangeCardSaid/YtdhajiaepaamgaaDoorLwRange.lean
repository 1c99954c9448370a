import Derived.Test.YtdhajiaepaamgaaDoorLwAlpha
import Derived.WalkKit
import Derived.WalkSpells
import Derived.WalkLawsBesides
import Derived.Lib.Hide
import Derived.Below
import Derived.Deep.QuietTactic
import Derived.BigQuiet
import Derived.Deep.RegionHeld3
import Derived.Deep.DrawnRows
import Derived.Deep.DeepFit
import Derived.IntWalk
namespace Go.Proofs.YtdhajiaepaamgaaDoor
open Go.RowKit
set_option linter.unusedVariables false
set_option linter.unusedSimpArgs false
attribute [local go_sem ↓] Go.wp_at_zero Go.wp_at_succ
attribute [local go_sem] rhoF_tmp rhoF_const rhoF_global rhoF_func

theorem al_ge (a d : Int) (a0 : 0 ≤ a) (a1 : a ≤ 255) (d0 : 0 ≤ d) (d1 : d ≤ 255) : a ≤ divN (unc a a d d + a * d) ∧ d ≤ divN (unc a a d d + a * d) ∧ divN (unc a a d d + a * d) ≤ 255 := by
  have q : 0 ≤ d * (255 - a) := Int.mul_nonneg d0 (by omega)
  have q2 : 0 ≤ a * (255 - d) := Int.mul_nonneg a0 (by omega)
  have e : unc a a d d = a * (255 - d) + d * (255 - a) := rfl
  have e1 : a * (255 - d) = 255 * a - a * d := by rw [Int.mul_sub]; omega
  have e2 : d * (255 - a) = 255 * d - a * d := by rw [Int.mul_sub, Int.mul_comm d a]; omega
  have hca := cover_bd (r := a) (a := a) (s := d) (d := d) a0 (by omega) a1 d0 (by omega) d1
  rw [divN_in (by omega) hca.1]
  omega

set_option maxHeartbeats 4000000 in
theorem brange_w (m r g b a s t u d : Int) (r0 : 0 ≤ r) (r1 : r ≤ 255) (g0 : 0 ≤ g) (g1 : g ≤ 255) (b0 : 0 ≤ b) (b1 : b ≤ 255) (a0 : 0 ≤ a) (a1 : a ≤ 255) (s0 : 0 ≤ s) (s1 : s ≤ 255) (t0 : 0 ≤ t) (t1 : t ≤ 255) (u0 : 0 ≤ u) (u1 : u ≤ 255) (d0 : 0 ≤ d) (d1 : d ≤ 255) (w : World) (hN : Nm w) :
    Calls Tryd.prog 6 #[.int .i64 m, .agg #[.int .u8 r, .int .u8 g, .int .u8 b, .int .u8 a], .agg #[.int .u8 s, .int .u8 t, .int .u8 u, .int .u8 d]] w fun e w' => e = .returned (.bool true) ∧ Below w.heap.size w w' := by
  have cv := fun w => validM_any m w
  have ctm := fun w => term_any m (min r a) a (min s d) d w
  have hin : 0 ≤ min r a ∧ min r a ≤ a ∧ a ≤ 255 ∧ 0 ≤ min s d ∧ min s d ≤ d ∧ d ≤ 255 := by omega
  have htb := trm_bd m hin
  have ad0 : 0 ≤ a * d := Int.mul_nonneg a0 d0
  have ad1 : a * d ≤ 255 * 255 := Int.mul_le_mul a1 d1 d0 (by omega)
  obtain ⟨ge0, ge1, ge2⟩ := al_ge a d a0 a1 d0 d1
  by_cases hm : 1 ≤ m ∧ m ≤ 13
  · rw [show (decide (1 ≤ m) && decide (m ≤ 13)) = true by simp; omega] at cv
    obtain ⟨q0, q1, q2, hq0, hq1, hq2, cq⟩ := blend_ex m r g b a s t u d hm.1 hm.2 r0 r1 g0 g1 b0 b1 a0 a1 s0 s1 t0 t1 u0 u1 d0 d1
    obtain ⟨al, hal⟩ : ∃ x, divN (unc a a d d + a * d) = x := ⟨_, rfl⟩
    rw [hal] at cq hq0 hq1 hq2 ge0 ge1 ge2
    clear hal
    rw [termF_in hin] at ctm
    obtain ⟨tz, htz⟩ : ∃ x, trm m (min r a) a (min s d) d = x := ⟨_, rfl⟩
    rw [htz] at ctm htb
    clear htz hin
    obtain ⟨ad, had⟩ : ∃ x, a * d = x := ⟨_, rfl⟩
    rw [had] at htb ad0 ad1
    obtain ⟨cr, hr⟩ : ∃ x, min r a = x := ⟨_, rfl⟩
    obtain ⟨cg, hg⟩ : ∃ x, min g a = x := ⟨_, rfl⟩
    obtain ⟨cb, hb⟩ : ∃ x, min b a = x := ⟨_, rfl⟩
    obtain ⟨cs, hs⟩ : ∃ x, min s d = x := ⟨_, rfl⟩
    obtain ⟨ct, ht⟩ : ∃ x, min t d = x := ⟨_, rfl⟩
    obtain ⟨cu, hu⟩ : ∃ x, min u d = x := ⟨_, rfl⟩
    rw [hr, hs] at ctm
    clear hm
    go_enter Tryd.func6, Tryd.ntmps6
    go_wp2
    refine wp_region_env (fun w' => w'.cell? ⟨w.heap.size, 0, none⟩ = some (.int .u8 r) ∧ w'.frozen? ⟨w.heap.size, 0, none⟩ = false ∧ w'.cell? ⟨w.heap.size, 1, none⟩ = some (.int .u8 g) ∧ w'.frozen? ⟨w.heap.size, 1, none⟩ = false ∧ w'.cell? ⟨w.heap.size, 2, none⟩ = some (.int .u8 b) ∧ w'.frozen? ⟨w.heap.size, 2, none⟩ = false ∧ w'.cell? ⟨w.heap.size, 3, none⟩ = some (.int .u8 a) ∧ w'.frozen? ⟨w.heap.size, 3, none⟩ = false ∧ w'.cell? ⟨w.heap.size + 1, 0, none⟩ = some (.int .u8 s) ∧ w'.frozen? ⟨w.heap.size + 1, 0, none⟩ = false ∧ w'.cell? ⟨w.heap.size + 1, 1, none⟩ = some (.int .u8 t) ∧ w'.frozen? ⟨w.heap.size + 1, 1, none⟩ = false ∧ w'.cell? ⟨w.heap.size + 1, 2, none⟩ = some (.int .u8 u) ∧ w'.frozen? ⟨w.heap.size + 1, 2, none⟩ = false ∧ w'.cell? ⟨w.heap.size + 1, 3, none⟩ = some (.int .u8 d) ∧ w'.frozen? ⟨w.heap.size + 1, 3, none⟩ = false ∧ Nm w') (fun W => W.cell? ⟨w.heap.size, 0, none⟩ = some (.int .u8 r) ∧ W.frozen? ⟨w.heap.size, 0, none⟩ = false ∧ W.cell? ⟨w.heap.size, 1, none⟩ = some (.int .u8 g) ∧ W.frozen? ⟨w.heap.size, 1, none⟩ = false ∧ W.cell? ⟨w.heap.size, 2, none⟩ = some (.int .u8 b) ∧ W.frozen? ⟨w.heap.size, 2, none⟩ = false ∧ W.cell? ⟨w.heap.size, 3, none⟩ = some (.int .u8 a) ∧ W.frozen? ⟨w.heap.size, 3, none⟩ = false ∧ W.cell? ⟨w.heap.size + 1, 0, none⟩ = some (.int .u8 s) ∧ W.frozen? ⟨w.heap.size + 1, 0, none⟩ = false ∧ W.cell? ⟨w.heap.size + 1, 1, none⟩ = some (.int .u8 t) ∧ W.frozen? ⟨w.heap.size + 1, 1, none⟩ = false ∧ W.cell? ⟨w.heap.size + 1, 2, none⟩ = some (.int .u8 u) ∧ W.frozen? ⟨w.heap.size + 1, 2, none⟩ = false ∧ W.cell? ⟨w.heap.size + 1, 3, none⟩ = some (.int .u8 d) ∧ W.frozen? ⟨w.heap.size + 1, 3, none⟩ = false ∧ Nm W ∧ Below w.heap.size w W ∧ w.heap.size + 1 + 1 ≤ W.heap.size) 6 95 [.val (.agg #[.int .u8 r, .int .u8 g, .int .u8 b, .int .u8 a]), .call 25 #[.agg #[.int .u8 r, .int .u8 g, .int .u8 b, .int .u8 a]] (.agg #[.int .u8 cr, .int .u8 cg, .int .u8 cb, .int .u8 a]), .val (.agg #[.int .u8 s, .int .u8 t, .int .u8 u, .int .u8 d]), .call 25 #[.agg #[.int .u8 s, .int .u8 t, .int .u8 u, .int .u8 d]] (.agg #[.int .u8 cs, .int .u8 ct, .int .u8 cu, .int .u8 d]), .fresh (.cells #[.int .u8 0, .int .u8 0, .int .u8 0, .int .u8 0] 31), .fresh (.cells #[.int .u8 0, .int .u8 0, .int .u8 0, .int .u8 0] 31)] (by kernel_rfl) (by kernel_rfl) rfl (by kernel_rfl) (by rintro w1 w2 ⟨h0, h1, h2, h3, h4, h5, h6, h7, h8, h9, h10, h11, h12, h13, h14, h15, h16⟩ hb; exact ⟨bcs hb h0, bfs hb h0 h1, bcs hb h2, bfs hb h2 h3, bcs hb h4, bfs hb h4 h5, bcs hb h6, bfs hb h6 h7, bcs hb h8, bfs hb h8 h9, bcs hb h10, bfs hb h10 h11, bcs hb h12, bfs hb h12 h13, bcs hb h14, bfs hb h14 h15, Nm.below h16 hb⟩) ⟨by first | with_reducible assumption | go_simp, by first | with_reducible assumption | go_simp, by first | with_reducible assumption | go_simp, by first | with_reducible assumption | go_simp, by first | with_reducible assumption | go_simp, by first | with_reducible assumption | go_simp, by first | with_reducible assumption | go_simp, by first | with_reducible assumption | go_simp, by first | with_reducible assumption | go_simp, by first | with_reducible assumption | go_simp, by first | with_reducible assumption | go_simp, by first | with_reducible assumption | go_simp, by first | with_reducible assumption | go_simp, by first | with_reducible assumption | go_simp, by first | with_reducible assumption | go_simp, by first | with_reducible assumption | go_simp, Nm.below hN (by repeat (first | with_reducible exact Below.refl _ _ | fail | with_reducible apply below_drewN | with_reducible apply Below.drew | (with_reducible refine Below.alloc ?_ (by first | (simp; done) | (simp; omega) | omega) _) | (with_reducible refine Below.setCell ?_ (by first | (simp; done) | (simp; omega) | omega) _))), by repeat (first | with_reducible exact Below.refl _ _ | fail | with_reducible apply below_drewN | with_reducible apply Below.drew | (with_reducible refine Below.alloc ?_ (by first | (simp; done) | (simp; omega) | omega) _) | (with_reducible refine Below.setCell ?_ (by first | (simp; done) | (simp; omega) | omega) _)), by first | with_reducible assumption | (simp; done) | (simp; omega)⟩ ?_ ?_
    · rintro W ⟨k1_b4_0, g1_b4_0, k1_b4_1, g1_b4_1, k1_b4_2, g1_b4_2, k1_b4_3, g1_b4_3, k1_b5_0, g1_b5_0, k1_b5_1, g1_b5_1, k1_b5_2, g1_b5_2, k1_b5_3, g1_b5_3, e1_0, B1, z1⟩; exact ⟨k1_b4_0, g1_b4_0, k1_b4_1, g1_b4_1, k1_b4_2, g1_b4_2, k1_b4_3, g1_b4_3, k1_b5_0, g1_b5_0, k1_b5_1, g1_b5_1, k1_b5_2, g1_b5_2, k1_b5_3, g1_b5_3, e1_0⟩
    rintro w1 ⟨k1_b4_0, g1_b4_0, k1_b4_1, g1_b4_1, k1_b4_2, g1_b4_2, k1_b4_3, g1_b4_3, k1_b5_0, g1_b5_0, k1_b5_1, g1_b5_1, k1_b5_2, g1_b5_2, k1_b5_3, g1_b5_3, e1_0, B1, z1⟩ gg
    simp only [List.take_succ_cons, List.take_zero, List.drop_succ_cons, List.drop_zero, List.cons_append, List.nil_append, List.append_nil]
    refine obe_val (by rfl) ?_ ?_
    · clear k1_b4_0 g1_b4_0 k1_b4_1 g1_b4_1 k1_b4_2 g1_b4_2 k1_b4_3 g1_b4_3 k1_b5_0 g1_b5_0 k1_b5_1 g1_b5_1 k1_b5_2 g1_b5_2 k1_b5_3 g1_b5_3 e1_0 B1 z1; intro f hf; have u4 : f 4 = (.pointer (some ⟨w.heap.size, 0, none⟩)) := (by rw [← hf]; rfl); clear hf; rintro w' ⟨h0, h1, h2, h3, h4, h5, h6, h7, h8, h9, h10, h11, h12, h13, h14, h15, h16⟩; go_simp; try exact IntWalk.i64_in _ (by omega)
    refine obe_call (by rfl) ?_ ?_ ?_
    · clear k1_b4_0 g1_b4_0 k1_b4_1 g1_b4_1 k1_b4_2 g1_b4_2 k1_b4_3 g1_b4_3 k1_b5_0 g1_b5_0 k1_b5_1 g1_b5_1 k1_b5_2 g1_b5_2 k1_b5_3 g1_b5_3 e1_0 B1 z1; intro f hf; have u11 : f 11 = (.agg #[.int .u8 r, .int .u8 g, .int .u8 b, .int .u8 a]) := (by rw [← hf]; rfl); clear hf; intro w' _; simp only [execOp, resolve, invoke, rhoF_tmp, rhoF_func, rhoF_const, u11, List.map_toArray, List.map_cons, List.map_nil]; go_simp
    · clear k1_b4_0 g1_b4_0 k1_b4_1 g1_b4_1 k1_b4_2 g1_b4_2 k1_b4_3 g1_b4_3 k1_b5_0 g1_b5_0 k1_b5_1 g1_b5_1 k1_b5_2 g1_b5_2 k1_b5_3 g1_b5_3 e1_0 B1 z1; rintro w' ⟨h0, h1, h2, h3, h4, h5, h6, h7, h8, h9, h10, h11, h12, h13, h14, h15, h16⟩; exact rpclamp_any r g b a cr cg cb hr hg hb _
    refine obe_val (by rfl) ?_ ?_
    · clear k1_b4_0 g1_b4_0 k1_b4_1 g1_b4_1 k1_b4_2 g1_b4_2 k1_b4_3 g1_b4_3 k1_b5_0 g1_b5_0 k1_b5_1 g1_b5_1 k1_b5_2 g1_b5_2 k1_b5_3 g1_b5_3 e1_0 B1 z1; intro f hf; have u5 : f 5 = (.pointer (some ⟨w.heap.size + 1, 0, none⟩)) := (by rw [← hf]; rfl); clear hf; rintro w' ⟨h0, h1, h2, h3, h4, h5, h6, h7, h8, h9, h10, h11, h12, h13, h14, h15, h16⟩; go_simp; try exact IntWalk.i64_in _ (by omega)
    refine obe_call (by rfl) ?_ ?_ ?_
    · clear k1_b4_0 g1_b4_0 k1_b4_1 g1_b4_1 k1_b4_2 g1_b4_2 k1_b4_3 g1_b4_3 k1_b5_0 g1_b5_0 k1_b5_1 g1_b5_1 k1_b5_2 g1_b5_2 k1_b5_3 g1_b5_3 e1_0 B1 z1; intro f hf; have u13 : f 13 = (.agg #[.int .u8 s, .int .u8 t, .int .u8 u, .int .u8 d]) := (by rw [← hf]; rfl); clear hf; intro w' _; simp only [execOp, resolve, invoke, rhoF_tmp, rhoF_func, rhoF_const, u13, List.map_toArray, List.map_cons, List.map_nil]; go_simp
    · clear k1_b4_0 g1_b4_0 k1_b4_1 g1_b4_1 k1_b4_2 g1_b4_2 k1_b4_3 g1_b4_3 k1_b5_0 g1_b5_0 k1_b5_1 g1_b5_1 k1_b5_2 g1_b5_2 k1_b5_3 g1_b5_3 e1_0 B1 z1; rintro w' ⟨h0, h1, h2, h3, h4, h5, h6, h7, h8, h9, h10, h11, h12, h13, h14, h15, h16⟩; exact rpclamp_any s t u d cs ct cu hs ht hu _
    refine obe_fresh (by rfl) ?_ ?_
    · clear k1_b4_0 g1_b4_0 k1_b4_1 g1_b4_1 k1_b4_2 g1_b4_2 k1_b4_3 g1_b4_3 k1_b5_0 g1_b5_0 k1_b5_1 g1_b5_1 k1_b5_2 g1_b5_2 k1_b5_3 g1_b5_3 e1_0 B1 z1; intro f hf; clear hf; rintro w' ⟨h0, h1, h2, h3, h4, h5, h6, h7, h8, h9, h10, h11, h12, h13, h14, h15, h16⟩; go_simp
    refine obe_fresh (by rfl) ?_ ?_
    · clear k1_b4_0 g1_b4_0 k1_b4_1 g1_b4_1 k1_b4_2 g1_b4_2 k1_b4_3 g1_b4_3 k1_b5_0 g1_b5_0 k1_b5_1 g1_b5_1 k1_b5_2 g1_b5_2 k1_b5_3 g1_b5_3 e1_0 B1 z1; intro f hf; clear hf; rintro w' ⟨h0, h1, h2, h3, h4, h5, h6, h7, h8, h9, h10, h11, h12, h13, h14, h15, h16⟩; go_simp
    refine obe_nil ?_
    rintro w2 ⟨h0, h1, h2, h3, h4, h5, h6, h7, h8, h9, h10, h11, h12, h13, h14, h15, h16⟩ hb2 hF
    (try simp only [List.nil_append, List.append_nil, List.cons_append] at hF)
    simp only [puts, putD, Act.put, List.setIfInBounds_toArray, List.set_cons_zero, List.set_cons_succ]
    have lg7 : w1.heap.size ≤ gg 4 := hF.1.1
    have ug7 : gg 4 < w2.heap.size := hF.1.2.1
    have pg7 : w2.heap[gg 4]? = some (.cells #[.int .u8 0, .int .u8 0, .int .u8 0, .int .u8 0] 31) := hF.1.2.2
    have ng7_g8 : ¬ gg 4 = gg 5 := hF.2.1 (5, .cells #[.int .u8 0, .int .u8 0, .int .u8 0, .int .u8 0] 31) (by simp)
    have lg8 : w1.heap.size ≤ gg 5 := hF.2.2.1.1
    have ug8 : gg 5 < w2.heap.size := hF.2.2.1.2.1
    have pg8 : w2.heap[gg 5]? = some (.cells #[.int .u8 0, .int .u8 0, .int .u8 0, .int .u8 0] 31) := hF.2.2.1.2.2
    clear hF
    obtain ⟨g7, eg7⟩ : ∃ x, gg 4 = x := ⟨_, rfl⟩
    rw [eg7] at lg7 ug7 pg7 ng7_g8 ⊢
    clear eg7
    obtain ⟨g8, eg8⟩ : ∃ x, gg 5 = x := ⟨_, rfl⟩
    rw [eg8] at lg8 ug8 pg8 ng7_g8 ⊢
    clear eg8
    clear gg
    have k2_b4_0 := bcs hb2 k1_b4_0
    have g2_b4_0 := bfs hb2 k1_b4_0 g1_b4_0
    have k2_b4_1 := bcs hb2 k1_b4_1
    have g2_b4_1 := bfs hb2 k1_b4_1 g1_b4_1
    have k2_b4_2 := bcs hb2 k1_b4_2
    have g2_b4_2 := bfs hb2 k1_b4_2 g1_b4_2
    have k2_b4_3 := bcs hb2 k1_b4_3
    have g2_b4_3 := bfs hb2 k1_b4_3 g1_b4_3
    have k2_b5_0 := bcs hb2 k1_b5_0
    have g2_b5_0 := bfs hb2 k1_b5_0 g1_b5_0
    have k2_b5_1 := bcs hb2 k1_b5_1
    have g2_b5_1 := bfs hb2 k1_b5_1 g1_b5_1
    have k2_b5_2 := bcs hb2 k1_b5_2
    have g2_b5_2 := bfs hb2 k1_b5_2 g1_b5_2
    have k2_b5_3 := bcs hb2 k1_b5_3
    have g2_b5_3 := bfs hb2 k1_b5_3 g1_b5_3
    clear h0 h1 h2 h3 h4 h5 h6 h7 h8 h9 h10 h11 h12 h13 h14 h15 h16
    have B2 := bel_step B1 hb2
    have z2 := Nat.le_trans z1 hb2.size
    have e2_0 := Nm.below hN B2
    have mg7 : w.heap.size ≤ g7 := by omega
    have ng7_b4 : ¬ g7 = w.heap.size := by omega
    have nb4_g7 : ¬ w.heap.size = g7 := by omega
    have ng7_b5 : ¬ g7 = w.heap.size + 1 := by omega
    have nb5_g7 : ¬ w.heap.size + 1 = g7 := by omega
    have k2_g7_0 : w2.cell? ⟨g7, 0, none⟩ = some (.int .u8 0) := cob pg7 0 rfl
    have g2_g7_0 : w2.frozen? ⟨g7, 0, none⟩ = false := fob pg7 0
    have k2_g7_1 : w2.cell? ⟨g7, 1, none⟩ = some (.int .u8 0) := cob pg7 1 rfl
    have g2_g7_1 : w2.frozen? ⟨g7, 1, none⟩ = false := fob pg7 1
    have k2_g7_2 : w2.cell? ⟨g7, 2, none⟩ = some (.int .u8 0) := cob pg7 2 rfl
    have g2_g7_2 : w2.frozen? ⟨g7, 2, none⟩ = false := fob pg7 2
    have k2_g7_3 : w2.cell? ⟨g7, 3, none⟩ = some (.int .u8 0) := cob pg7 3 rfl
    have g2_g7_3 : w2.frozen? ⟨g7, 3, none⟩ = false := fob pg7 3
    have mg8 : w.heap.size ≤ g8 := by omega
    have ng8_b4 : ¬ g8 = w.heap.size := by omega
    have nb4_g8 : ¬ w.heap.size = g8 := by omega
    have ng8_b5 : ¬ g8 = w.heap.size + 1 := by omega
    have nb5_g8 : ¬ w.heap.size + 1 = g8 := by omega
    have k2_g8_0 : w2.cell? ⟨g8, 0, none⟩ = some (.int .u8 0) := cob pg8 0 rfl
    have g2_g8_0 : w2.frozen? ⟨g8, 0, none⟩ = false := fob pg8 0
    have k2_g8_1 : w2.cell? ⟨g8, 1, none⟩ = some (.int .u8 0) := cob pg8 1 rfl
    have g2_g8_1 : w2.frozen? ⟨g8, 1, none⟩ = false := fob pg8 1
    have k2_g8_2 : w2.cell? ⟨g8, 2, none⟩ = some (.int .u8 0) := cob pg8 2 rfl
    have g2_g8_2 : w2.frozen? ⟨g8, 2, none⟩ = false := fob pg8 2
    have k2_g8_3 : w2.cell? ⟨g8, 3, none⟩ = some (.int .u8 0) := cob pg8 3 rfl
    have g2_g8_3 : w2.frozen? ⟨g8, 3, none⟩ = false := fob pg8 3
    have ng8_g7 : ¬ g8 = g7 := fun h => ng7_g8 h.symm
    clear lg7 ug7 pg7
    clear lg8 ug8 pg8
    clear hb2
    (try clear B1)
    (try clear z1)
    (try clear k1_b4_0)
    (try clear g1_b4_0)
    (try clear k1_b4_1)
    (try clear g1_b4_1)
    (try clear k1_b4_2)
    (try clear g1_b4_2)
    (try clear k1_b4_3)
    (try clear g1_b4_3)
    (try clear k1_b5_0)
    (try clear g1_b5_0)
    (try clear k1_b5_1)
    (try clear g1_b5_1)
    (try clear k1_b5_2)
    (try clear g1_b5_2)
    (try clear k1_b5_3)
    (try clear g1_b5_3)
    (try clear e1_0)
    (try clear q1_b4)
    (try clear x1_b4)
    (try clear y1_b4)
    (try clear q1_b5)
    (try clear x1_b5)
    (try clear y1_b5)
    have q2_b4 : w.heap.size < w2.heap.size := qlt k2_b4_0
    have x2_b4 : ¬ w.heap.size = w2.heap.size := qne k2_b4_0
    have y2_b4 : ¬ w2.heap.size = w.heap.size := fun h => qne k2_b4_0 h.symm
    have q2_b5 : w.heap.size + 1 < w2.heap.size := qlt k2_b5_0
    have x2_b5 : ¬ w.heap.size + 1 = w2.heap.size := qne k2_b5_0
    have y2_b5 : ¬ w2.heap.size = w.heap.size + 1 := fun h => qne k2_b5_0 h.symm
    have q2_g7 : g7 < w2.heap.size := qlt k2_g7_0
    have x2_g7 : ¬ g7 = w2.heap.size := qne k2_g7_0
    have y2_g7 : ¬ w2.heap.size = g7 := fun h => qne k2_g7_0 h.symm
    have q2_g8 : g8 < w2.heap.size := qlt k2_g8_0
    have x2_g8 : ¬ g8 = w2.heap.size := qne k2_g8_0
    have y2_g8 : ¬ w2.heap.size = g8 := fun h => qne k2_g8_0 h.symm
    go_wp2_with (first | (go_at_call 21; (with_reducible refine (ctm _).mono ?_); rintro e w9 ⟨rfl, rfl⟩) | (go_at_call 23; (with_reducible refine (cq _).mono ?_); rintro e w3 ⟨rfl, hb3⟩; have k3_b4_0 : w3.cell? ⟨w.heap.size, 0, none⟩ = some (.int .u8 r) := bcs hb3 (by go_simp); have g3_b4_0 : w3.frozen? ⟨w.heap.size, 0, none⟩ = false := bfs hb3 (v := .int .u8 r) (by go_simp) (by go_simp); have k3_b4_1 : w3.cell? ⟨w.heap.size, 1, none⟩ = some (.int .u8 g) := bcs hb3 (by go_simp); have g3_b4_1 : w3.frozen? ⟨w.heap.size, 1, none⟩ = false := bfs hb3 (v := .int .u8 g) (by go_simp) (by go_simp); have k3_b4_2 : w3.cell? ⟨w.heap.size, 2, none⟩ = some (.int .u8 b) := bcs hb3 (by go_simp); have g3_b4_2 : w3.frozen? ⟨w.heap.size, 2, none⟩ = false := bfs hb3 (v := .int .u8 b) (by go_simp) (by go_simp); have k3_b4_3 : w3.cell? ⟨w.heap.size, 3, none⟩ = some (.int .u8 a) := bcs hb3 (by go_simp); have g3_b4_3 : w3.frozen? ⟨w.heap.size, 3, none⟩ = false := bfs hb3 (v := .int .u8 a) (by go_simp) (by go_simp); have k3_b5_0 : w3.cell? ⟨w.heap.size + 1, 0, none⟩ = some (.int .u8 s) := bcs hb3 (by go_simp); have g3_b5_0 : w3.frozen? ⟨w.heap.size + 1, 0, none⟩ = false := bfs hb3 (v := .int .u8 s) (by go_simp) (by go_simp); have k3_b5_1 : w3.cell? ⟨w.heap.size + 1, 1, none⟩ = some (.int .u8 t) := bcs hb3 (by go_simp); have g3_b5_1 : w3.frozen? ⟨w.heap.size + 1, 1, none⟩ = false := bfs hb3 (v := .int .u8 t) (by go_simp) (by go_simp); have k3_b5_2 : w3.cell? ⟨w.heap.size + 1, 2, none⟩ = some (.int .u8 u) := bcs hb3 (by go_simp); have g3_b5_2 : w3.frozen? ⟨w.heap.size + 1, 2, none⟩ = false := bfs hb3 (v := .int .u8 u) (by go_simp) (by go_simp); have k3_b5_3 : w3.cell? ⟨w.heap.size + 1, 3, none⟩ = some (.int .u8 d) := bcs hb3 (by go_simp); have g3_b5_3 : w3.frozen? ⟨w.heap.size + 1, 3, none⟩ = false := bfs hb3 (v := .int .u8 d) (by go_simp) (by go_simp); have k3_g7_0 : w3.cell? ⟨g7, 0, none⟩ = some (.int .u8 cr) := bcs hb3 (by go_simp); have g3_g7_0 : w3.frozen? ⟨g7, 0, none⟩ = false := bfs hb3 (v := .int .u8 cr) (by go_simp) (by go_simp); have k3_g7_1 : w3.cell? ⟨g7, 1, none⟩ = some (.int .u8 cg) := bcs hb3 (by go_simp); have g3_g7_1 : w3.frozen? ⟨g7, 1, none⟩ = false := bfs hb3 (v := .int .u8 cg) (by go_simp) (by go_simp); have k3_g7_2 : w3.cell? ⟨g7, 2, none⟩ = some (.int .u8 cb) := bcs hb3 (by go_simp); have g3_g7_2 : w3.frozen? ⟨g7, 2, none⟩ = false := bfs hb3 (v := .int .u8 cb) (by go_simp) (by go_simp); have k3_g7_3 : w3.cell? ⟨g7, 3, none⟩ = some (.int .u8 a) := bcs hb3 (by go_simp); have g3_g7_3 : w3.frozen? ⟨g7, 3, none⟩ = false := bfs hb3 (v := .int .u8 a) (by go_simp) (by go_simp); have k3_g8_0 : w3.cell? ⟨g8, 0, none⟩ = some (.int .u8 cs) := bcs hb3 (by go_simp); have g3_g8_0 : w3.frozen? ⟨g8, 0, none⟩ = false := bfs hb3 (v := .int .u8 cs) (by go_simp) (by go_simp); have k3_g8_1 : w3.cell? ⟨g8, 1, none⟩ = some (.int .u8 ct) := bcs hb3 (by go_simp); have g3_g8_1 : w3.frozen? ⟨g8, 1, none⟩ = false := bfs hb3 (v := .int .u8 ct) (by go_simp) (by go_simp); have k3_g8_2 : w3.cell? ⟨g8, 2, none⟩ = some (.int .u8 cu) := bcs hb3 (by go_simp); have g3_g8_2 : w3.frozen? ⟨g8, 2, none⟩ = false := bfs hb3 (v := .int .u8 cu) (by go_simp) (by go_simp); have k3_g8_3 : w3.cell? ⟨g8, 3, none⟩ = some (.int .u8 d) := bcs hb3 (by go_simp); have g3_g8_3 : w3.frozen? ⟨g8, 3, none⟩ = false := bfs hb3 (v := .int .u8 d) (by go_simp) (by go_simp); have q3_b4 : w.heap.size < w3.heap.size := qlt k3_b4_0; have x3_b4 : ¬ w.heap.size = w3.heap.size := qne k3_b4_0; have y3_b4 : ¬ w3.heap.size = w.heap.size := fun h => qne k3_b4_0 h.symm; have q3_b5 : w.heap.size + 1 < w3.heap.size := qlt k3_b5_0; have x3_b5 : ¬ w.heap.size + 1 = w3.heap.size := qne k3_b5_0; have y3_b5 : ¬ w3.heap.size = w.heap.size + 1 := fun h => qne k3_b5_0 h.symm; have q3_g7 : g7 < w3.heap.size := qlt k3_g7_0; have x3_g7 : ¬ g7 = w3.heap.size := qne k3_g7_0; have y3_g7 : ¬ w3.heap.size = g7 := fun h => qne k3_g7_0 h.symm; have q3_g8 : g8 < w3.heap.size := qlt k3_g8_0; have x3_g8 : ¬ g8 = w3.heap.size := qne k3_g8_0; have y3_g8 : ¬ w3.heap.size = g8 := fun h => qne k3_g8_0 h.symm; have B3 : Below w.heap.size w w3 := bel_step (by repeat (first | with_reducible exact Below.refl _ _ | with_reducible exact B2 | with_reducible apply below_drewN | with_reducible apply Below.drew | (with_reducible refine Below.alloc ?_ (by first | (simp; done) | (simp; omega) | omega) _) | (with_reducible refine Below.setCell ?_ (by first | (simp; done) | (simp; omega) | omega) _))) hb3; have z3 : w.heap.size + 1 + 1 ≤ w3.heap.size := Nat.le_trans (by first | with_reducible assumption | (simp; done) | (simp; omega)) hb3.size; have e3_0 := Nm.below hN B3; clear hb3; (try clear k2_b4_0); (try clear g2_b4_0); (try clear k2_b4_1); (try clear g2_b4_1); (try clear k2_b4_2); (try clear g2_b4_2); (try clear k2_b4_3); (try clear g2_b4_3); (try clear k2_b5_0); (try clear g2_b5_0); (try clear k2_b5_1); (try clear g2_b5_1); (try clear k2_b5_2); (try clear g2_b5_2); (try clear k2_b5_3); (try clear g2_b5_3); (try clear k2_g7_0); (try clear g2_g7_0); (try clear k2_g7_1); (try clear g2_g7_1); (try clear k2_g7_2); (try clear g2_g7_2); (try clear k2_g7_3); (try clear g2_g7_3); (try clear k2_g8_0); (try clear g2_g8_0); (try clear k2_g8_1); (try clear g2_g8_1); (try clear k2_g8_2); (try clear g2_g8_2); (try clear k2_g8_3); (try clear g2_g8_3); (try clear e2_0); (try clear B2); (try clear z2); (try clear q2_b4); (try clear x2_b4); (try clear y2_b4); (try clear q2_b5); (try clear x2_b5); (try clear y2_b5); (try clear q2_g7); (try clear x2_g7); (try clear y2_g7); (try clear q2_g8); (try clear x2_g8); (try clear y2_g8)) | (go_at_call 17; (with_reducible refine (cv _).mono ?_); rintro e w9 ⟨rfl, rfl⟩) | (go_at_call 20; (with_reducible refine (bex_any _ (Nm.below hN (by repeat (first | with_reducible exact Below.refl _ _ | with_reducible exact B3 | with_reducible apply below_drewN | with_reducible apply Below.drew | (with_reducible refine Below.alloc ?_ (by first | (simp; done) | (simp; omega) | omega) _) | (with_reducible refine Below.setCell ?_ (by first | (simp; done) | (simp; omega) | omega) _))))).mono ?_); rintro e w4 ⟨rfl, hb4⟩; have k4_b4_0 : w4.cell? ⟨w.heap.size, 0, none⟩ = some (.int .u8 r) := bcs hb4 (by go_simp); have g4_b4_0 : w4.frozen? ⟨w.heap.size, 0, none⟩ = false := bfs hb4 (v := .int .u8 r) (by go_simp) (by go_simp); have k4_b4_1 : w4.cell? ⟨w.heap.size, 1, none⟩ = some (.int .u8 g) := bcs hb4 (by go_simp); have g4_b4_1 : w4.frozen? ⟨w.heap.size, 1, none⟩ = false := bfs hb4 (v := .int .u8 g) (by go_simp) (by go_simp); have k4_b4_2 : w4.cell? ⟨w.heap.size, 2, none⟩ = some (.int .u8 b) := bcs hb4 (by go_simp); have g4_b4_2 : w4.frozen? ⟨w.heap.size, 2, none⟩ = false := bfs hb4 (v := .int .u8 b) (by go_simp) (by go_simp); have k4_b4_3 : w4.cell? ⟨w.heap.size, 3, none⟩ = some (.int .u8 a) := bcs hb4 (by go_simp); have g4_b4_3 : w4.frozen? ⟨w.heap.size, 3, none⟩ = false := bfs hb4 (v := .int .u8 a) (by go_simp) (by go_simp); have k4_b5_0 : w4.cell? ⟨w.heap.size + 1, 0, none⟩ = some (.int .u8 s) := bcs hb4 (by go_simp); have g4_b5_0 : w4.frozen? ⟨w.heap.size + 1, 0, none⟩ = false := bfs hb4 (v := .int .u8 s) (by go_simp) (by go_simp); have k4_b5_1 : w4.cell? ⟨w.heap.size + 1, 1, none⟩ = some (.int .u8 t) := bcs hb4 (by go_simp); have g4_b5_1 : w4.frozen? ⟨w.heap.size + 1, 1, none⟩ = false := bfs hb4 (v := .int .u8 t) (by go_simp) (by go_simp); have k4_b5_2 : w4.cell? ⟨w.heap.size + 1, 2, none⟩ = some (.int .u8 u) := bcs hb4 (by go_simp); have g4_b5_2 : w4.frozen? ⟨w.heap.size + 1, 2, none⟩ = false := bfs hb4 (v := .int .u8 u) (by go_simp) (by go_simp); have k4_b5_3 : w4.cell? ⟨w.heap.size + 1, 3, none⟩ = some (.int .u8 d) := bcs hb4 (by go_simp); have g4_b5_3 : w4.frozen? ⟨w.heap.size + 1, 3, none⟩ = false := bfs hb4 (v := .int .u8 d) (by go_simp) (by go_simp); have k4_g7_0 : w4.cell? ⟨g7, 0, none⟩ = some (.int .u8 cr) := bcs hb4 (by go_simp); have g4_g7_0 : w4.frozen? ⟨g7, 0, none⟩ = false := bfs hb4 (v := .int .u8 cr) (by go_simp) (by go_simp); have k4_g7_1 : w4.cell? ⟨g7, 1, none⟩ = some (.int .u8 cg) := bcs hb4 (by go_simp); have g4_g7_1 : w4.frozen? ⟨g7, 1, none⟩ = false := bfs hb4 (v := .int .u8 cg) (by go_simp) (by go_simp); have k4_g7_2 : w4.cell? ⟨g7, 2, none⟩ = some (.int .u8 cb) := bcs hb4 (by go_simp); have g4_g7_2 : w4.frozen? ⟨g7, 2, none⟩ = false := bfs hb4 (v := .int .u8 cb) (by go_simp) (by go_simp); have k4_g7_3 : w4.cell? ⟨g7, 3, none⟩ = some (.int .u8 a) := bcs hb4 (by go_simp); have g4_g7_3 : w4.frozen? ⟨g7, 3, none⟩ = false := bfs hb4 (v := .int .u8 a) (by go_simp) (by go_simp); have k4_g8_0 : w4.cell? ⟨g8, 0, none⟩ = some (.int .u8 cs) := bcs hb4 (by go_simp); have g4_g8_0 : w4.frozen? ⟨g8, 0, none⟩ = false := bfs hb4 (v := .int .u8 cs) (by go_simp) (by go_simp); have k4_g8_1 : w4.cell? ⟨g8, 1, none⟩ = some (.int .u8 ct) := bcs hb4 (by go_simp); have g4_g8_1 : w4.frozen? ⟨g8, 1, none⟩ = false := bfs hb4 (v := .int .u8 ct) (by go_simp) (by go_simp); have k4_g8_2 : w4.cell? ⟨g8, 2, none⟩ = some (.int .u8 cu) := bcs hb4 (by go_simp); have g4_g8_2 : w4.frozen? ⟨g8, 2, none⟩ = false := bfs hb4 (v := .int .u8 cu) (by go_simp) (by go_simp); have k4_g8_3 : w4.cell? ⟨g8, 3, none⟩ = some (.int .u8 d) := bcs hb4 (by go_simp); have g4_g8_3 : w4.frozen? ⟨g8, 3, none⟩ = false := bfs hb4 (v := .int .u8 d) (by go_simp) (by go_simp); have k4_g10_0 : w4.cell? ⟨w3.heap.size, 0, none⟩ = some (.int .u8 q0) := bcs hb4 (by go_simp); have g4_g10_0 : w4.frozen? ⟨w3.heap.size, 0, none⟩ = false := bfs hb4 (v := .int .u8 q0) (by go_simp) (by go_simp); have k4_g10_1 : w4.cell? ⟨w3.heap.size, 1, none⟩ = some (.int .u8 q1) := bcs hb4 (by go_simp); have g4_g10_1 : w4.frozen? ⟨w3.heap.size, 1, none⟩ = false := bfs hb4 (v := .int .u8 q1) (by go_simp) (by go_simp); have k4_g10_2 : w4.cell? ⟨w3.heap.size, 2, none⟩ = some (.int .u8 q2) := bcs hb4 (by go_simp); have g4_g10_2 : w4.frozen? ⟨w3.heap.size, 2, none⟩ = false := bfs hb4 (v := .int .u8 q2) (by go_simp) (by go_simp); have k4_g10_3 : w4.cell? ⟨w3.heap.size, 3, none⟩ = some (.int .u8 al) := bcs hb4 (by go_simp); have g4_g10_3 : w4.frozen? ⟨w3.heap.size, 3, none⟩ = false := bfs hb4 (v := .int .u8 al) (by go_simp) (by go_simp); have q4_b4 : w.heap.size < w4.heap.size := qlt k4_b4_0; have x4_b4 : ¬ w.heap.size = w4.heap.size := qne k4_b4_0; have y4_b4 : ¬ w4.heap.size = w.heap.size := fun h => qne k4_b4_0 h.symm; have q4_b5 : w.heap.size + 1 < w4.heap.size := qlt k4_b5_0; have x4_b5 : ¬ w.heap.size + 1 = w4.heap.size := qne k4_b5_0; have y4_b5 : ¬ w4.heap.size = w.heap.size + 1 := fun h => qne k4_b5_0 h.symm; have q4_g7 : g7 < w4.heap.size := qlt k4_g7_0; have x4_g7 : ¬ g7 = w4.heap.size := qne k4_g7_0; have y4_g7 : ¬ w4.heap.size = g7 := fun h => qne k4_g7_0 h.symm; have q4_g8 : g8 < w4.heap.size := qlt k4_g8_0; have x4_g8 : ¬ g8 = w4.heap.size := qne k4_g8_0; have y4_g8 : ¬ w4.heap.size = g8 := fun h => qne k4_g8_0 h.symm; have q4_g10 : w3.heap.size < w4.heap.size := qlt k4_g10_0; have x4_g10 : ¬ w3.heap.size = w4.heap.size := qne k4_g10_0; have y4_g10 : ¬ w4.heap.size = w3.heap.size := fun h => qne k4_g10_0 h.symm; have B4 : Below w.heap.size w w4 := bel_step (by repeat (first | with_reducible exact Below.refl _ _ | with_reducible exact B3 | with_reducible apply below_drewN | with_reducible apply Below.drew | (with_reducible refine Below.alloc ?_ (by first | (simp; done) | (simp; omega) | omega) _) | (with_reducible refine Below.setCell ?_ (by first | (simp; done) | (simp; omega) | omega) _))) hb4; have z4 : w.heap.size + 1 + 1 ≤ w4.heap.size := Nat.le_trans (by first | with_reducible assumption | (simp; done) | (simp; omega)) hb4.size; have e4_0 := Nm.below hN B4; clear hb4; (try clear k3_b4_0); (try clear g3_b4_0); (try clear k3_b4_1); (try clear g3_b4_1); (try clear k3_b4_2); (try clear g3_b4_2); (try clear k3_b4_3); (try clear g3_b4_3); (try clear k3_b5_0); (try clear g3_b5_0); (try clear k3_b5_1); (try clear g3_b5_1); (try clear k3_b5_2); (try clear g3_b5_2); (try clear k3_b5_3); (try clear g3_b5_3); (try clear k3_g7_0); (try clear g3_g7_0); (try clear k3_g7_1); (try clear g3_g7_1); (try clear k3_g7_2); (try clear g3_g7_2); (try clear k3_g7_3); (try clear g3_g7_3); (try clear k3_g8_0); (try clear g3_g8_0); (try clear k3_g8_1); (try clear g3_g8_1); (try clear k3_g8_2); (try clear g3_g8_2); (try clear k3_g8_3); (try clear g3_g8_3); (try clear k3_g10_0); (try clear g3_g10_0); (try clear k3_g10_1); (try clear g3_g10_1); (try clear k3_g10_2); (try clear g3_g10_2); (try clear k3_g10_3); (try clear g3_g10_3); (try clear e3_0); (try clear B3); (try clear z3)))
    go_ret
    refine ⟨rfl, ?_⟩
    repeat (first | with_reducible exact Below.refl _ _ | with_reducible exact B4 | with_reducible apply below_drewN | with_reducible apply Below.drew | (with_reducible refine Below.alloc ?_ (by first | (simp; done) | (simp; omega) | omega) _) | (with_reducible refine Below.setCell ?_ (by first | (simp; done) | (simp; omega) | omega) _))
  · rw [show (decide (1 ≤ m) && decide (m ≤ 13)) = false by simp; omega] at cv
    have cq := fun w => blendX_any m r g b a s t u d hm w
    rw [termF_zero m _ _ _ _ (by omega)] at ctm
    clear htb hin ge0 ge1 ge2
    obtain ⟨ad, had⟩ : ∃ x, a * d = x := ⟨_, rfl⟩
    rw [had] at ad0 ad1
    obtain ⟨cr, hr⟩ : ∃ x, min r a = x := ⟨_, rfl⟩
    obtain ⟨cg, hg⟩ : ∃ x, min g a = x := ⟨_, rfl⟩
    obtain ⟨cb, hb⟩ : ∃ x, min b a = x := ⟨_, rfl⟩
    obtain ⟨cs, hs⟩ : ∃ x, min s d = x := ⟨_, rfl⟩
    obtain ⟨ct, ht⟩ : ∃ x, min t d = x := ⟨_, rfl⟩
    obtain ⟨cu, hu⟩ : ∃ x, min u d = x := ⟨_, rfl⟩
    rw [hr, hs] at ctm
    clear hm
    go_enter Tryd.func6, Tryd.ntmps6
    go_wp2
    refine wp_region_env (fun w' => w'.cell? ⟨w.heap.size, 0, none⟩ = some (.int .u8 r) ∧ w'.frozen? ⟨w.heap.size, 0, none⟩ = false ∧ w'.cell? ⟨w.heap.size, 1, none⟩ = some (.int .u8 g) ∧ w'.frozen? ⟨w.heap.size, 1, none⟩ = false ∧ w'.cell? ⟨w.heap.size, 2, none⟩ = some (.int .u8 b) ∧ w'.frozen? ⟨w.heap.size, 2, none⟩ = false ∧ w'.cell? ⟨w.heap.size, 3, none⟩ = some (.int .u8 a) ∧ w'.frozen? ⟨w.heap.size, 3, none⟩ = false ∧ w'.cell? ⟨w.heap.size + 1, 0, none⟩ = some (.int .u8 s) ∧ w'.frozen? ⟨w.heap.size + 1, 0, none⟩ = false ∧ w'.cell? ⟨w.heap.size + 1, 1, none⟩ = some (.int .u8 t) ∧ w'.frozen? ⟨w.heap.size + 1, 1, none⟩ = false ∧ w'.cell? ⟨w.heap.size + 1, 2, none⟩ = some (.int .u8 u) ∧ w'.frozen? ⟨w.heap.size + 1, 2, none⟩ = false ∧ w'.cell? ⟨w.heap.size + 1, 3, none⟩ = some (.int .u8 d) ∧ w'.frozen? ⟨w.heap.size + 1, 3, none⟩ = false ∧ Nm w') (fun W => W.cell? ⟨w.heap.size, 0, none⟩ = some (.int .u8 r) ∧ W.frozen? ⟨w.heap.size, 0, none⟩ = false ∧ W.cell? ⟨w.heap.size, 1, none⟩ = some (.int .u8 g) ∧ W.frozen? ⟨w.heap.size, 1, none⟩ = false ∧ W.cell? ⟨w.heap.size, 2, none⟩ = some (.int .u8 b) ∧ W.frozen? ⟨w.heap.size, 2, none⟩ = false ∧ W.cell? ⟨w.heap.size, 3, none⟩ = some (.int .u8 a) ∧ W.frozen? ⟨w.heap.size, 3, none⟩ = false ∧ W.cell? ⟨w.heap.size + 1, 0, none⟩ = some (.int .u8 s) ∧ W.frozen? ⟨w.heap.size + 1, 0, none⟩ = false ∧ W.cell? ⟨w.heap.size + 1, 1, none⟩ = some (.int .u8 t) ∧ W.frozen? ⟨w.heap.size + 1, 1, none⟩ = false ∧ W.cell? ⟨w.heap.size + 1, 2, none⟩ = some (.int .u8 u) ∧ W.frozen? ⟨w.heap.size + 1, 2, none⟩ = false ∧ W.cell? ⟨w.heap.size + 1, 3, none⟩ = some (.int .u8 d) ∧ W.frozen? ⟨w.heap.size + 1, 3, none⟩ = false ∧ Nm W ∧ Below w.heap.size w W ∧ w.heap.size + 1 + 1 ≤ W.heap.size) 6 95 [.val (.agg #[.int .u8 r, .int .u8 g, .int .u8 b, .int .u8 a]), .call 25 #[.agg #[.int .u8 r, .int .u8 g, .int .u8 b, .int .u8 a]] (.agg #[.int .u8 cr, .int .u8 cg, .int .u8 cb, .int .u8 a]), .val (.agg #[.int .u8 s, .int .u8 t, .int .u8 u, .int .u8 d]), .call 25 #[.agg #[.int .u8 s, .int .u8 t, .int .u8 u, .int .u8 d]] (.agg #[.int .u8 cs, .int .u8 ct, .int .u8 cu, .int .u8 d]), .fresh (.cells #[.int .u8 0, .int .u8 0, .int .u8 0, .int .u8 0] 31), .fresh (.cells #[.int .u8 0, .int .u8 0, .int .u8 0, .int .u8 0] 31)] (by kernel_rfl) (by kernel_rfl) rfl (by kernel_rfl) (by rintro w1 w2 ⟨h0, h1, h2, h3, h4, h5, h6, h7, h8, h9, h10, h11, h12, h13, h14, h15, h16⟩ hb; exact ⟨bcs hb h0, bfs hb h0 h1, bcs hb h2, bfs hb h2 h3, bcs hb h4, bfs hb h4 h5, bcs hb h6, bfs hb h6 h7, bcs hb h8, bfs hb h8 h9, bcs hb h10, bfs hb h10 h11, bcs hb h12, bfs hb h12 h13, bcs hb h14, bfs hb h14 h15, Nm.below h16 hb⟩) ⟨by first | with_reducible assumption | go_simp, by first | with_reducible assumption | go_simp, by first | with_reducible assumption | go_simp, by first | with_reducible assumption | go_simp, by first | with_reducible assumption | go_simp, by first | with_reducible assumption | go_simp, by first | with_reducible assumption | go_simp, by first | with_reducible assumption | go_simp, by first | with_reducible assumption | go_simp, by first | with_reducible assumption | go_simp, by first | with_reducible assumption | go_simp, by first | with_reducible assumption | go_simp, by first | with_reducible assumption | go_simp, by first | with_reducible assumption | go_simp, by first | with_reducible assumption | go_simp, by first | with_reducible assumption | go_simp, Nm.below hN (by repeat (first | with_reducible exact Below.refl _ _ | fail | with_reducible apply below_drewN | with_reducible apply Below.drew | (with_reducible refine Below.alloc ?_ (by first | (simp; done) | (simp; omega) | omega) _) | (with_reducible refine Below.setCell ?_ (by first | (simp; done) | (simp; omega) | omega) _))), by repeat (first | with_reducible exact Below.refl _ _ | fail | with_reducible apply below_drewN | with_reducible apply Below.drew | (with_reducible refine Below.alloc ?_ (by first | (simp; done) | (simp; omega) | omega) _) | (with_reducible refine Below.setCell ?_ (by first | (simp; done) | (simp; omega) | omega) _)), by first | with_reducible assumption | (simp; done) | (simp; omega)⟩ ?_ ?_
    · rintro W ⟨k1_b4_0, g1_b4_0, k1_b4_1, g1_b4_1, k1_b4_2, g1_b4_2, k1_b4_3, g1_b4_3, k1_b5_0, g1_b5_0, k1_b5_1, g1_b5_1, k1_b5_2, g1_b5_2, k1_b5_3, g1_b5_3, e1_0, B1, z1⟩; exact ⟨k1_b4_0, g1_b4_0, k1_b4_1, g1_b4_1, k1_b4_2, g1_b4_2, k1_b4_3, g1_b4_3, k1_b5_0, g1_b5_0, k1_b5_1, g1_b5_1, k1_b5_2, g1_b5_2, k1_b5_3, g1_b5_3, e1_0⟩
    rintro w1 ⟨k1_b4_0, g1_b4_0, k1_b4_1, g1_b4_1, k1_b4_2, g1_b4_2, k1_b4_3, g1_b4_3, k1_b5_0, g1_b5_0, k1_b5_1, g1_b5_1, k1_b5_2, g1_b5_2, k1_b5_3, g1_b5_3, e1_0, B1, z1⟩ gg
    simp only [List.take_succ_cons, List.take_zero, List.drop_succ_cons, List.drop_zero, List.cons_append, List.nil_append, List.append_nil]
    refine obe_val (by rfl) ?_ ?_
    · clear k1_b4_0 g1_b4_0 k1_b4_1 g1_b4_1 k1_b4_2 g1_b4_2 k1_b4_3 g1_b4_3 k1_b5_0 g1_b5_0 k1_b5_1 g1_b5_1 k1_b5_2 g1_b5_2 k1_b5_3 g1_b5_3 e1_0 B1 z1; intro f hf; have u4 : f 4 = (.pointer (some ⟨w.heap.size, 0, none⟩)) := (by rw [← hf]; rfl); clear hf; rintro w' ⟨h0, h1, h2, h3, h4, h5, h6, h7, h8, h9, h10, h11, h12, h13, h14, h15, h16⟩; go_simp; try exact IntWalk.i64_in _ (by omega)
    refine obe_call (by rfl) ?_ ?_ ?_
    · clear k1_b4_0 g1_b4_0 k1_b4_1 g1_b4_1 k1_b4_2 g1_b4_2 k1_b4_3 g1_b4_3 k1_b5_0 g1_b5_0 k1_b5_1 g1_b5_1 k1_b5_2 g1_b5_2 k1_b5_3 g1_b5_3 e1_0 B1 z1; intro f hf; have u11 : f 11 = (.agg #[.int .u8 r, .int .u8 g, .int .u8 b, .int .u8 a]) := (by rw [← hf]; rfl); clear hf; intro w' _; simp only [execOp, resolve, invoke, rhoF_tmp, rhoF_func, rhoF_const, u11, List.map_toArray, List.map_cons, List.map_nil]; go_simp
    · clear k1_b4_0 g1_b4_0 k1_b4_1 g1_b4_1 k1_b4_2 g1_b4_2 k1_b4_3 g1_b4_3 k1_b5_0 g1_b5_0 k1_b5_1 g1_b5_1 k1_b5_2 g1_b5_2 k1_b5_3 g1_b5_3 e1_0 B1 z1; rintro w' ⟨h0, h1, h2, h3, h4, h5, h6, h7, h8, h9, h10, h11, h12, h13, h14, h15, h16⟩; exact rpclamp_any r g b a cr cg cb hr hg hb _
    refine obe_val (by rfl) ?_ ?_
    · clear k1_b4_0 g1_b4_0 k1_b4_1 g1_b4_1 k1_b4_2 g1_b4_2 k1_b4_3 g1_b4_3 k1_b5_0 g1_b5_0 k1_b5_1 g1_b5_1 k1_b5_2 g1_b5_2 k1_b5_3 g1_b5_3 e1_0 B1 z1; intro f hf; have u5 : f 5 = (.pointer (some ⟨w.heap.size + 1, 0, none⟩)) := (by rw [← hf]; rfl); clear hf; rintro w' ⟨h0, h1, h2, h3, h4, h5, h6, h7, h8, h9, h10, h11, h12, h13, h14, h15, h16⟩; go_simp; try exact IntWalk.i64_in _ (by omega)
    refine obe_call (by rfl) ?_ ?_ ?_
    · clear k1_b4_0 g1_b4_0 k1_b4_1 g1_b4_1 k1_b4_2 g1_b4_2 k1_b4_3 g1_b4_3 k1_b5_0 g1_b5_0 k1_b5_1 g1_b5_1 k1_b5_2 g1_b5_2 k1_b5_3 g1_b5_3 e1_0 B1 z1; intro f hf; have u13 : f 13 = (.agg #[.int .u8 s, .int .u8 t, .int .u8 u, .int .u8 d]) := (by rw [← hf]; rfl); clear hf; intro w' _; simp only [execOp, resolve, invoke, rhoF_tmp, rhoF_func, rhoF_const, u13, List.map_toArray, List.map_cons, List.map_nil]; go_simp
    · clear k1_b4_0 g1_b4_0 k1_b4_1 g1_b4_1 k1_b4_2 g1_b4_2 k1_b4_3 g1_b4_3 k1_b5_0 g1_b5_0 k1_b5_1 g1_b5_1 k1_b5_2 g1_b5_2 k1_b5_3 g1_b5_3 e1_0 B1 z1; rintro w' ⟨h0, h1, h2, h3, h4, h5, h6, h7, h8, h9, h10, h11, h12, h13, h14, h15, h16⟩; exact rpclamp_any s t u d cs ct cu hs ht hu _
    refine obe_fresh (by rfl) ?_ ?_
    · clear k1_b4_0 g1_b4_0 k1_b4_1 g1_b4_1 k1_b4_2 g1_b4_2 k1_b4_3 g1_b4_3 k1_b5_0 g1_b5_0 k1_b5_1 g1_b5_1 k1_b5_2 g1_b5_2 k1_b5_3 g1_b5_3 e1_0 B1 z1; intro f hf; clear hf; rintro w' ⟨h0, h1, h2, h3, h4, h5, h6, h7, h8, h9, h10, h11, h12, h13, h14, h15, h16⟩; go_simp
    refine obe_fresh (by rfl) ?_ ?_
    · clear k1_b4_0 g1_b4_0 k1_b4_1 g1_b4_1 k1_b4_2 g1_b4_2 k1_b4_3 g1_b4_3 k1_b5_0 g1_b5_0 k1_b5_1 g1_b5_1 k1_b5_2 g1_b5_2 k1_b5_3 g1_b5_3 e1_0 B1 z1; intro f hf; clear hf; rintro w' ⟨h0, h1, h2, h3, h4, h5, h6, h7, h8, h9, h10, h11, h12, h13, h14, h15, h16⟩; go_simp
    refine obe_nil ?_
    rintro w2 ⟨h0, h1, h2, h3, h4, h5, h6, h7, h8, h9, h10, h11, h12, h13, h14, h15, h16⟩ hb2 hF
    (try simp only [List.nil_append, List.append_nil, List.cons_append] at hF)
    simp only [puts, putD, Act.put, List.setIfInBounds_toArray, List.set_cons_zero, List.set_cons_succ]
    have lg7 : w1.heap.size ≤ gg 4 := hF.1.1
    have ug7 : gg 4 < w2.heap.size := hF.1.2.1
    have pg7 : w2.heap[gg 4]? = some (.cells #[.int .u8 0, .int .u8 0, .int .u8 0, .int .u8 0] 31) := hF.1.2.2
    have ng7_g8 : ¬ gg 4 = gg 5 := hF.2.1 (5, .cells #[.int .u8 0, .int .u8 0, .int .u8 0, .int .u8 0] 31) (by simp)
    have lg8 : w1.heap.size ≤ gg 5 := hF.2.2.1.1
    have ug8 : gg 5 < w2.heap.size := hF.2.2.1.2.1
    have pg8 : w2.heap[gg 5]? = some (.cells #[.int .u8 0, .int .u8 0, .int .u8 0, .int .u8 0] 31) := hF.2.2.1.2.2
    clear hF
    obtain ⟨g7, eg7⟩ : ∃ x, gg 4 = x := ⟨_, rfl⟩
    rw [eg7] at lg7 ug7 pg7 ng7_g8 ⊢
    clear eg7
    obtain ⟨g8, eg8⟩ : ∃ x, gg 5 = x := ⟨_, rfl⟩
    rw [eg8] at lg8 ug8 pg8 ng7_g8 ⊢
    clear eg8
    clear gg
    have k2_b4_0 := bcs hb2 k1_b4_0
    have g2_b4_0 := bfs hb2 k1_b4_0 g1_b4_0
    have k2_b4_1 := bcs hb2 k1_b4_1
    have g2_b4_1 := bfs hb2 k1_b4_1 g1_b4_1
    have k2_b4_2 := bcs hb2 k1_b4_2
    have g2_b4_2 := bfs hb2 k1_b4_2 g1_b4_2
    have k2_b4_3 := bcs hb2 k1_b4_3
    have g2_b4_3 := bfs hb2 k1_b4_3 g1_b4_3
    have k2_b5_0 := bcs hb2 k1_b5_0
    have g2_b5_0 := bfs hb2 k1_b5_0 g1_b5_0
    have k2_b5_1 := bcs hb2 k1_b5_1
    have g2_b5_1 := bfs hb2 k1_b5_1 g1_b5_1
    have k2_b5_2 := bcs hb2 k1_b5_2
    have g2_b5_2 := bfs hb2 k1_b5_2 g1_b5_2
    have k2_b5_3 := bcs hb2 k1_b5_3
    have g2_b5_3 := bfs hb2 k1_b5_3 g1_b5_3
    clear h0 h1 h2 h3 h4 h5 h6 h7 h8 h9 h10 h11 h12 h13 h14 h15 h16
    have B2 := bel_step B1 hb2
    have z2 := Nat.le_trans z1 hb2.size
    have e2_0 := Nm.below hN B2
    have mg7 : w.heap.size ≤ g7 := by omega
    have ng7_b4 : ¬ g7 = w.heap.size := by omega
    have nb4_g7 : ¬ w.heap.size = g7 := by omega
    have ng7_b5 : ¬ g7 = w.heap.size + 1 := by omega
    have nb5_g7 : ¬ w.heap.size + 1 = g7 := by omega
    have k2_g7_0 : w2.cell? ⟨g7, 0, none⟩ = some (.int .u8 0) := cob pg7 0 rfl
    have g2_g7_0 : w2.frozen? ⟨g7, 0, none⟩ = false := fob pg7 0
    have k2_g7_1 : w2.cell? ⟨g7, 1, none⟩ = some (.int .u8 0) := cob pg7 1 rfl
    have g2_g7_1 : w2.frozen? ⟨g7, 1, none⟩ = false := fob pg7 1
    have k2_g7_2 : w2.cell? ⟨g7, 2, none⟩ = some (.int .u8 0) := cob pg7 2 rfl
    have g2_g7_2 : w2.frozen? ⟨g7, 2, none⟩ = false := fob pg7 2
    have k2_g7_3 : w2.cell? ⟨g7, 3, none⟩ = some (.int .u8 0) := cob pg7 3 rfl
    have g2_g7_3 : w2.frozen? ⟨g7, 3, none⟩ = false := fob pg7 3
    have mg8 : w.heap.size ≤ g8 := by omega
    have ng8_b4 : ¬ g8 = w.heap.size := by omega
    have nb4_g8 : ¬ w.heap.size = g8 := by omega
    have ng8_b5 : ¬ g8 = w.heap.size + 1 := by omega
    have nb5_g8 : ¬ w.heap.size + 1 = g8 := by omega
    have k2_g8_0 : w2.cell? ⟨g8, 0, none⟩ = some (.int .u8 0) := cob pg8 0 rfl
    have g2_g8_0 : w2.frozen? ⟨g8, 0, none⟩ = false := fob pg8 0
    have k2_g8_1 : w2.cell? ⟨g8, 1, none⟩ = some (.int .u8 0) := cob pg8 1 rfl
    have g2_g8_1 : w2.frozen? ⟨g8, 1, none⟩ = false := fob pg8 1
    have k2_g8_2 : w2.cell? ⟨g8, 2, none⟩ = some (.int .u8 0) := cob pg8 2 rfl
    have g2_g8_2 : w2.frozen? ⟨g8, 2, none⟩ = false := fob pg8 2
    have k2_g8_3 : w2.cell? ⟨g8, 3, none⟩ = some (.int .u8 0) := cob pg8 3 rfl
    have g2_g8_3 : w2.frozen? ⟨g8, 3, none⟩ = false := fob pg8 3
    have ng8_g7 : ¬ g8 = g7 := fun h => ng7_g8 h.symm
    clear lg7 ug7 pg7
    clear lg8 ug8 pg8
    clear hb2
    (try clear B1)
    (try clear z1)
    (try clear k1_b4_0)
    (try clear g1_b4_0)
    (try clear k1_b4_1)
    (try clear g1_b4_1)
    (try clear k1_b4_2)
    (try clear g1_b4_2)
    (try clear k1_b4_3)
    (try clear g1_b4_3)
    (try clear k1_b5_0)
    (try clear g1_b5_0)
    (try clear k1_b5_1)
    (try clear g1_b5_1)
    (try clear k1_b5_2)
    (try clear g1_b5_2)
    (try clear k1_b5_3)
    (try clear g1_b5_3)
    (try clear e1_0)
    (try clear q1_b4)
    (try clear x1_b4)
    (try clear y1_b4)
    (try clear q1_b5)
    (try clear x1_b5)
    (try clear y1_b5)
    have q2_b4 : w.heap.size < w2.heap.size := qlt k2_b4_0
    have x2_b4 : ¬ w.heap.size = w2.heap.size := qne k2_b4_0
    have y2_b4 : ¬ w2.heap.size = w.heap.size := fun h => qne k2_b4_0 h.symm
    have q2_b5 : w.heap.size + 1 < w2.heap.size := qlt k2_b5_0
    have x2_b5 : ¬ w.heap.size + 1 = w2.heap.size := qne k2_b5_0
    have y2_b5 : ¬ w2.heap.size = w.heap.size + 1 := fun h => qne k2_b5_0 h.symm
    have q2_g7 : g7 < w2.heap.size := qlt k2_g7_0
    have x2_g7 : ¬ g7 = w2.heap.size := qne k2_g7_0
    have y2_g7 : ¬ w2.heap.size = g7 := fun h => qne k2_g7_0 h.symm
    have q2_g8 : g8 < w2.heap.size := qlt k2_g8_0
    have x2_g8 : ¬ g8 = w2.heap.size := qne k2_g8_0
    have y2_g8 : ¬ w2.heap.size = g8 := fun h => qne k2_g8_0 h.symm
    go_wp2_with (first | (go_at_call 21; (with_reducible refine (ctm _).mono ?_); rintro e w9 ⟨rfl, rfl⟩) | (go_at_call 23; (with_reducible refine (cq _).mono ?_); rintro e w3 ⟨rfl, hb3⟩; have k3_b4_0 : w3.cell? ⟨w.heap.size, 0, none⟩ = some (.int .u8 r) := bcs hb3 (by go_simp); have g3_b4_0 : w3.frozen? ⟨w.heap.size, 0, none⟩ = false := bfs hb3 (v := .int .u8 r) (by go_simp) (by go_simp); have k3_b4_1 : w3.cell? ⟨w.heap.size, 1, none⟩ = some (.int .u8 g) := bcs hb3 (by go_simp); have g3_b4_1 : w3.frozen? ⟨w.heap.size, 1, none⟩ = false := bfs hb3 (v := .int .u8 g) (by go_simp) (by go_simp); have k3_b4_2 : w3.cell? ⟨w.heap.size, 2, none⟩ = some (.int .u8 b) := bcs hb3 (by go_simp); have g3_b4_2 : w3.frozen? ⟨w.heap.size, 2, none⟩ = false := bfs hb3 (v := .int .u8 b) (by go_simp) (by go_simp); have k3_b4_3 : w3.cell? ⟨w.heap.size, 3, none⟩ = some (.int .u8 a) := bcs hb3 (by go_simp); have g3_b4_3 : w3.frozen? ⟨w.heap.size, 3, none⟩ = false := bfs hb3 (v := .int .u8 a) (by go_simp) (by go_simp); have k3_b5_0 : w3.cell? ⟨w.heap.size + 1, 0, none⟩ = some (.int .u8 s) := bcs hb3 (by go_simp); have g3_b5_0 : w3.frozen? ⟨w.heap.size + 1, 0, none⟩ = false := bfs hb3 (v := .int .u8 s) (by go_simp) (by go_simp); have k3_b5_1 : w3.cell? ⟨w.heap.size + 1, 1, none⟩ = some (.int .u8 t) := bcs hb3 (by go_simp); have g3_b5_1 : w3.frozen? ⟨w.heap.size + 1, 1, none⟩ = false := bfs hb3 (v := .int .u8 t) (by go_simp) (by go_simp); have k3_b5_2 : w3.cell? ⟨w.heap.size + 1, 2, none⟩ = some (.int .u8 u) := bcs hb3 (by go_simp); have g3_b5_2 : w3.frozen? ⟨w.heap.size + 1, 2, none⟩ = false := bfs hb3 (v := .int .u8 u) (by go_simp) (by go_simp); have k3_b5_3 : w3.cell? ⟨w.heap.size + 1, 3, none⟩ = some (.int .u8 d) := bcs hb3 (by go_simp); have g3_b5_3 : w3.frozen? ⟨w.heap.size + 1, 3, none⟩ = false := bfs hb3 (v := .int .u8 d) (by go_simp) (by go_simp); have k3_g7_0 : w3.cell? ⟨g7, 0, none⟩ = some (.int .u8 cr) := bcs hb3 (by go_simp); have g3_g7_0 : w3.frozen? ⟨g7, 0, none⟩ = false := bfs hb3 (v := .int .u8 cr) (by go_simp) (by go_simp); have k3_g7_1 : w3.cell? ⟨g7, 1, none⟩ = some (.int .u8 cg) := bcs hb3 (by go_simp); have g3_g7_1 : w3.frozen? ⟨g7, 1, none⟩ = false := bfs hb3 (v := .int .u8 cg) (by go_simp) (by go_simp); have k3_g7_2 : w3.cell? ⟨g7, 2, none⟩ = some (.int .u8 cb) := bcs hb3 (by go_simp); have g3_g7_2 : w3.frozen? ⟨g7, 2, none⟩ = false := bfs hb3 (v := .int .u8 cb) (by go_simp) (by go_simp); have k3_g7_3 : w3.cell? ⟨g7, 3, none⟩ = some (.int .u8 a) := bcs hb3 (by go_simp); have g3_g7_3 : w3.frozen? ⟨g7, 3, none⟩ = false := bfs hb3 (v := .int .u8 a) (by go_simp) (by go_simp); have k3_g8_0 : w3.cell? ⟨g8, 0, none⟩ = some (.int .u8 cs) := bcs hb3 (by go_simp); have g3_g8_0 : w3.frozen? ⟨g8, 0, none⟩ = false := bfs hb3 (v := .int .u8 cs) (by go_simp) (by go_simp); have k3_g8_1 : w3.cell? ⟨g8, 1, none⟩ = some (.int .u8 ct) := bcs hb3 (by go_simp); have g3_g8_1 : w3.frozen? ⟨g8, 1, none⟩ = false := bfs hb3 (v := .int .u8 ct) (by go_simp) (by go_simp); have k3_g8_2 : w3.cell? ⟨g8, 2, none⟩ = some (.int .u8 cu) := bcs hb3 (by go_simp); have g3_g8_2 : w3.frozen? ⟨g8, 2, none⟩ = false := bfs hb3 (v := .int .u8 cu) (by go_simp) (by go_simp); have k3_g8_3 : w3.cell? ⟨g8, 3, none⟩ = some (.int .u8 d) := bcs hb3 (by go_simp); have g3_g8_3 : w3.frozen? ⟨g8, 3, none⟩ = false := bfs hb3 (v := .int .u8 d) (by go_simp) (by go_simp); have q3_b4 : w.heap.size < w3.heap.size := qlt k3_b4_0; have x3_b4 : ¬ w.heap.size = w3.heap.size := qne k3_b4_0; have y3_b4 : ¬ w3.heap.size = w.heap.size := fun h => qne k3_b4_0 h.symm; have q3_b5 : w.heap.size + 1 < w3.heap.size := qlt k3_b5_0; have x3_b5 : ¬ w.heap.size + 1 = w3.heap.size := qne k3_b5_0; have y3_b5 : ¬ w3.heap.size = w.heap.size + 1 := fun h => qne k3_b5_0 h.symm; have q3_g7 : g7 < w3.heap.size := qlt k3_g7_0; have x3_g7 : ¬ g7 = w3.heap.size := qne k3_g7_0; have y3_g7 : ¬ w3.heap.size = g7 := fun h => qne k3_g7_0 h.symm; have q3_g8 : g8 < w3.heap.size := qlt k3_g8_0; have x3_g8 : ¬ g8 = w3.heap.size := qne k3_g8_0; have y3_g8 : ¬ w3.heap.size = g8 := fun h => qne k3_g8_0 h.symm; have B3 : Below w.heap.size w w3 := bel_step (by repeat (first | with_reducible exact Below.refl _ _ | with_reducible exact B2 | with_reducible apply below_drewN | with_reducible apply Below.drew | (with_reducible refine Below.alloc ?_ (by first | (simp; done) | (simp; omega) | omega) _) | (with_reducible refine Below.setCell ?_ (by first | (simp; done) | (simp; omega) | omega) _))) hb3; have z3 : w.heap.size + 1 + 1 ≤ w3.heap.size := Nat.le_trans (by first | with_reducible assumption | (simp; done) | (simp; omega)) hb3.size; have e3_0 := Nm.below hN B3; clear hb3; (try clear k2_b4_0); (try clear g2_b4_0); (try clear k2_b4_1); (try clear g2_b4_1); (try clear k2_b4_2); (try clear g2_b4_2); (try clear k2_b4_3); (try clear g2_b4_3); (try clear k2_b5_0); (try clear g2_b5_0); (try clear k2_b5_1); (try clear g2_b5_1); (try clear k2_b5_2); (try clear g2_b5_2); (try clear k2_b5_3); (try clear g2_b5_3); (try clear k2_g7_0); (try clear g2_g7_0); (try clear k2_g7_1); (try clear g2_g7_1); (try clear k2_g7_2); (try clear g2_g7_2); (try clear k2_g7_3); (try clear g2_g7_3); (try clear k2_g8_0); (try clear g2_g8_0); (try clear k2_g8_1); (try clear g2_g8_1); (try clear k2_g8_2); (try clear g2_g8_2); (try clear k2_g8_3); (try clear g2_g8_3); (try clear e2_0); (try clear B2); (try clear z2); (try clear q2_b4); (try clear x2_b4); (try clear y2_b4); (try clear q2_b5); (try clear x2_b5); (try clear y2_b5); (try clear q2_g7); (try clear x2_g7); (try clear y2_g7); (try clear q2_g8); (try clear x2_g8); (try clear y2_g8)) | (go_at_call 17; (with_reducible refine (cv _).mono ?_); rintro e w9 ⟨rfl, rfl⟩) | (go_at_call 20; (with_reducible refine (bex_any _ (Nm.below hN (by repeat (first | with_reducible exact Below.refl _ _ | with_reducible exact B3 | with_reducible apply below_drewN | with_reducible apply Below.drew | (with_reducible refine Below.alloc ?_ (by first | (simp; done) | (simp; omega) | omega) _) | (with_reducible refine Below.setCell ?_ (by first | (simp; done) | (simp; omega) | omega) _))))).mono ?_); rintro e w4 ⟨rfl, hb4⟩; have k4_b4_0 : w4.cell? ⟨w.heap.size, 0, none⟩ = some (.int .u8 r) := bcs hb4 (by go_simp); have g4_b4_0 : w4.frozen? ⟨w.heap.size, 0, none⟩ = false := bfs hb4 (v := .int .u8 r) (by go_simp) (by go_simp); have k4_b4_1 : w4.cell? ⟨w.heap.size, 1, none⟩ = some (.int .u8 g) := bcs hb4 (by go_simp); have g4_b4_1 : w4.frozen? ⟨w.heap.size, 1, none⟩ = false := bfs hb4 (v := .int .u8 g) (by go_simp) (by go_simp); have k4_b4_2 : w4.cell? ⟨w.heap.size, 2, none⟩ = some (.int .u8 b) := bcs hb4 (by go_simp); have g4_b4_2 : w4.frozen? ⟨w.heap.size, 2, none⟩ = false := bfs hb4 (v := .int .u8 b) (by go_simp) (by go_simp); have k4_b4_3 : w4.cell? ⟨w.heap.size, 3, none⟩ = some (.int .u8 a) := bcs hb4 (by go_simp); have g4_b4_3 : w4.frozen? ⟨w.heap.size, 3, none⟩ = false := bfs hb4 (v := .int .u8 a) (by go_simp) (by go_simp); have k4_b5_0 : w4.cell? ⟨w.heap.size + 1, 0, none⟩ = some (.int .u8 s) := bcs hb4 (by go_simp); have g4_b5_0 : w4.frozen? ⟨w.heap.size + 1, 0, none⟩ = false := bfs hb4 (v := .int .u8 s) (by go_simp) (by go_simp); have k4_b5_1 : w4.cell? ⟨w.heap.size + 1, 1, none⟩ = some (.int .u8 t) := bcs hb4 (by go_simp); have g4_b5_1 : w4.frozen? ⟨w.heap.size + 1, 1, none⟩ = false := bfs hb4 (v := .int .u8 t) (by go_simp) (by go_simp); have k4_b5_2 : w4.cell? ⟨w.heap.size + 1, 2, none⟩ = some (.int .u8 u) := bcs hb4 (by go_simp); have g4_b5_2 : w4.frozen? ⟨w.heap.size + 1, 2, none⟩ = false := bfs hb4 (v := .int .u8 u) (by go_simp) (by go_simp); have k4_b5_3 : w4.cell? ⟨w.heap.size + 1, 3, none⟩ = some (.int .u8 d) := bcs hb4 (by go_simp); have g4_b5_3 : w4.frozen? ⟨w.heap.size + 1, 3, none⟩ = false := bfs hb4 (v := .int .u8 d) (by go_simp) (by go_simp); have k4_g7_0 : w4.cell? ⟨g7, 0, none⟩ = some (.int .u8 cr) := bcs hb4 (by go_simp); have g4_g7_0 : w4.frozen? ⟨g7, 0, none⟩ = false := bfs hb4 (v := .int .u8 cr) (by go_simp) (by go_simp); have k4_g7_1 : w4.cell? ⟨g7, 1, none⟩ = some (.int .u8 cg) := bcs hb4 (by go_simp); have g4_g7_1 : w4.frozen? ⟨g7, 1, none⟩ = false := bfs hb4 (v := .int .u8 cg) (by go_simp) (by go_simp); have k4_g7_2 : w4.cell? ⟨g7, 2, none⟩ = some (.int .u8 cb) := bcs hb4 (by go_simp); have g4_g7_2 : w4.frozen? ⟨g7, 2, none⟩ = false := bfs hb4 (v := .int .u8 cb) (by go_simp) (by go_simp); have k4_g7_3 : w4.cell? ⟨g7, 3, none⟩ = some (.int .u8 a) := bcs hb4 (by go_simp); have g4_g7_3 : w4.frozen? ⟨g7, 3, none⟩ = false := bfs hb4 (v := .int .u8 a) (by go_simp) (by go_simp); have k4_g8_0 : w4.cell? ⟨g8, 0, none⟩ = some (.int .u8 cs) := bcs hb4 (by go_simp); have g4_g8_0 : w4.frozen? ⟨g8, 0, none⟩ = false := bfs hb4 (v := .int .u8 cs) (by go_simp) (by go_simp); have k4_g8_1 : w4.cell? ⟨g8, 1, none⟩ = some (.int .u8 ct) := bcs hb4 (by go_simp); have g4_g8_1 : w4.frozen? ⟨g8, 1, none⟩ = false := bfs hb4 (v := .int .u8 ct) (by go_simp) (by go_simp); have k4_g8_2 : w4.cell? ⟨g8, 2, none⟩ = some (.int .u8 cu) := bcs hb4 (by go_simp); have g4_g8_2 : w4.frozen? ⟨g8, 2, none⟩ = false := bfs hb4 (v := .int .u8 cu) (by go_simp) (by go_simp); have k4_g8_3 : w4.cell? ⟨g8, 3, none⟩ = some (.int .u8 d) := bcs hb4 (by go_simp); have g4_g8_3 : w4.frozen? ⟨g8, 3, none⟩ = false := bfs hb4 (v := .int .u8 d) (by go_simp) (by go_simp); have k4_g10_0 : w4.cell? ⟨w3.heap.size, 0, none⟩ = some (.int .u8 s) := bcs hb4 (by go_simp); have g4_g10_0 : w4.frozen? ⟨w3.heap.size, 0, none⟩ = false := bfs hb4 (v := .int .u8 s) (by go_simp) (by go_simp); have k4_g10_1 : w4.cell? ⟨w3.heap.size, 1, none⟩ = some (.int .u8 t) := bcs hb4 (by go_simp); have g4_g10_1 : w4.frozen? ⟨w3.heap.size, 1, none⟩ = false := bfs hb4 (v := .int .u8 t) (by go_simp) (by go_simp); have k4_g10_2 : w4.cell? ⟨w3.heap.size, 2, none⟩ = some (.int .u8 u) := bcs hb4 (by go_simp); have g4_g10_2 : w4.frozen? ⟨w3.heap.size, 2, none⟩ = false := bfs hb4 (v := .int .u8 u) (by go_simp) (by go_simp); have k4_g10_3 : w4.cell? ⟨w3.heap.size, 3, none⟩ = some (.int .u8 d) := bcs hb4 (by go_simp); have g4_g10_3 : w4.frozen? ⟨w3.heap.size, 3, none⟩ = false := bfs hb4 (v := .int .u8 d) (by go_simp) (by go_simp); have q4_b4 : w.heap.size < w4.heap.size := qlt k4_b4_0; have x4_b4 : ¬ w.heap.size = w4.heap.size := qne k4_b4_0; have y4_b4 : ¬ w4.heap.size = w.heap.size := fun h => qne k4_b4_0 h.symm; have q4_b5 : w.heap.size + 1 < w4.heap.size := qlt k4_b5_0; have x4_b5 : ¬ w.heap.size + 1 = w4.heap.size := qne k4_b5_0; have y4_b5 : ¬ w4.heap.size = w.heap.size + 1 := fun h => qne k4_b5_0 h.symm; have q4_g7 : g7 < w4.heap.size := qlt k4_g7_0; have x4_g7 : ¬ g7 = w4.heap.size := qne k4_g7_0; have y4_g7 : ¬ w4.heap.size = g7 := fun h => qne k4_g7_0 h.symm; have q4_g8 : g8 < w4.heap.size := qlt k4_g8_0; have x4_g8 : ¬ g8 = w4.heap.size := qne k4_g8_0; have y4_g8 : ¬ w4.heap.size = g8 := fun h => qne k4_g8_0 h.symm; have q4_g10 : w3.heap.size < w4.heap.size := qlt k4_g10_0; have x4_g10 : ¬ w3.heap.size = w4.heap.size := qne k4_g10_0; have y4_g10 : ¬ w4.heap.size = w3.heap.size := fun h => qne k4_g10_0 h.symm; have B4 : Below w.heap.size w w4 := bel_step (by repeat (first | with_reducible exact Below.refl _ _ | with_reducible exact B3 | with_reducible apply below_drewN | with_reducible apply Below.drew | (with_reducible refine Below.alloc ?_ (by first | (simp; done) | (simp; omega) | omega) _) | (with_reducible refine Below.setCell ?_ (by first | (simp; done) | (simp; omega) | omega) _))) hb4; have z4 : w.heap.size + 1 + 1 ≤ w4.heap.size := Nat.le_trans (by first | with_reducible assumption | (simp; done) | (simp; omega)) hb4.size; have e4_0 := Nm.below hN B4; clear hb4; (try clear k3_b4_0); (try clear g3_b4_0); (try clear k3_b4_1); (try clear g3_b4_1); (try clear k3_b4_2); (try clear g3_b4_2); (try clear k3_b4_3); (try clear g3_b4_3); (try clear k3_b5_0); (try clear g3_b5_0); (try clear k3_b5_1); (try clear g3_b5_1); (try clear k3_b5_2); (try clear g3_b5_2); (try clear k3_b5_3); (try clear g3_b5_3); (try clear k3_g7_0); (try clear g3_g7_0); (try clear k3_g7_1); (try clear g3_g7_1); (try clear k3_g7_2); (try clear g3_g7_2); (try clear k3_g7_3); (try clear g3_g7_3); (try clear k3_g8_0); (try clear g3_g8_0); (try clear k3_g8_1); (try clear g3_g8_1); (try clear k3_g8_2); (try clear g3_g8_2); (try clear k3_g8_3); (try clear g3_g8_3); (try clear k3_g10_0); (try clear g3_g10_0); (try clear k3_g10_1); (try clear g3_g10_1); (try clear k3_g10_2); (try clear g3_g10_2); (try clear k3_g10_3); (try clear g3_g10_3); (try clear e3_0); (try clear B3); (try clear z3)))
    go_ret
    refine ⟨rfl, ?_⟩
    repeat (first | with_reducible exact Below.refl _ _ | with_reducible exact B4 | with_reducible apply below_drewN | with_reducible apply Below.drew | (with_reducible refine Below.alloc ?_ (by first | (simp; done) | (simp; omega) | omega) _) | (with_reducible refine Below.setCell ?_ (by first | (simp; done) | (simp; omega) | omega) _))
end Go.Proofs.YtdhajiaepaamgaaDoor
