import Derived.Test.YtdhajiaepaamgaaDoorN6
import Derived.Test.YtdhajiaepaamgaaDoorBX
import Derived.WalkKit
import Derived.WalkSpells
import Derived.WalkLawsBesides
import Derived.Lib.Hide
import Derived.Below
import Derived.Deep.QuietTactic
import Derived.BigQuiet
import Derived.Deep.RegionHeld3
import Derived.Deep.DrawnRows
import Derived.Deep.DeepFit
import Derived.IntWalk
namespace Go.Proofs.YtdhajiaepaamgaaDoor
open Go.RowKit
set_option linter.unusedVariables false
set_option linter.unusedSimpArgs false
attribute [local go_sem ↓] Go.wp_at_zero Go.wp_at_succ
attribute [local go_sem] rhoF_tmp rhoF_const rhoF_global rhoF_func

theorem fld3 (x0 x1 x2 x3 : Value) (w : World) : (Instr.field 31 (.agg #[x0, x1, x2, x3]) 3).run Tryd.prog w = .ok x3 w := by kernel_rfl
theorem trm_out (m s sa d da : Int) (h : ¬ (1 ≤ m ∧ m ≤ 9)) : trm m s sa d da = 0 := by
  unfold trm
  rw [if_neg (by omega), if_neg (by omega), if_neg (by omega), if_neg (by omega), if_neg (by omega), if_neg (by omega), if_neg (by omega), if_neg (by omega), if_neg (by omega)]
theorem termF_zero (m s sa d da : Int) (h : ¬ (1 ≤ m ∧ m ≤ 9)) : termF m s sa d da = 0 := by unfold termF; split <;> first | rfl | exact trm_out m s sa d da h

set_option maxHeartbeats 4000000 in
theorem balpha_w (m r g b a s t u d : Int) (r0 : 0 ≤ r) (r1 : r ≤ 255) (g0 : 0 ≤ g) (g1 : g ≤ 255) (b0 : 0 ≤ b) (b1 : b ≤ 255) (a0 : 0 ≤ a) (a1 : a ≤ 255) (s0 : 0 ≤ s) (s1 : s ≤ 255) (t0 : 0 ≤ t) (t1 : t ≤ 255) (u0 : 0 ≤ u) (u1 : u ≤ 255) (d0 : 0 ≤ d) (d1 : d ≤ 255) (w : World) (hN : Nm w) :
    Calls Tryd.prog 13 #[.int .i64 m, .agg #[.int .u8 r, .int .u8 g, .int .u8 b, .int .u8 a], .agg #[.int .u8 s, .int .u8 t, .int .u8 u, .int .u8 d]] w fun e w' => e = .returned (.bool true) ∧ Below w.heap.size w w' := by
  have cv := fun w => validM_any m w
  have fld := fld3
  by_cases hm : 1 ≤ m ∧ m ≤ 13
  · rw [show (decide (1 ≤ m) && decide (m ≤ 13)) = true by simp; omega] at cv
    obtain ⟨q0, q1, q2, -, -, -, cq⟩ := blend_ex m r g b a s t u d hm.1 hm.2 r0 r1 g0 g1 b0 b1 a0 a1 s0 s1 t0 t1 u0 u1 d0 d1
    obtain ⟨p0, p1, p2, -, -, -, cp⟩ := blend_ex 1 r g b a s t u d (by omega) (by omega) r0 r1 g0 g1 b0 b1 a0 a1 s0 s1 t0 t1 u0 u1 d0 d1
    obtain ⟨al, hal⟩ : ∃ x, divN (unc a a d d + a * d) = x := ⟨_, rfl⟩
    rw [hal] at cq cp
    clear hal
    obtain ⟨cr, hr⟩ : ∃ x, min r a = x := ⟨_, rfl⟩
    obtain ⟨cg, hg⟩ : ∃ x, min g a = x := ⟨_, rfl⟩
    obtain ⟨cb, hb⟩ : ∃ x, min b a = x := ⟨_, rfl⟩
    obtain ⟨cs, hs⟩ : ∃ x, min s d = x := ⟨_, rfl⟩
    obtain ⟨ct, ht⟩ : ∃ x, min t d = x := ⟨_, rfl⟩
    obtain ⟨cu, hu⟩ : ∃ x, min u d = x := ⟨_, rfl⟩
    have ctm := fun w => term_any m cg a ct d w
    by_cases h9 : m ≤ 9
    · obtain ⟨tz, htz⟩ : ∃ x, termF m cg a ct d = x := ⟨_, rfl⟩
      rw [htz] at ctm
      clear htz
      have h9b : decide (m ≤ 9) = true := by simpa using h9
      clear hm
      go_enter Tryd.func13, Tryd.ntmps13
      go_wp2_with (first | (go_at_call 17; (with_reducible refine (cv _).mono ?_); rintro e w9 ⟨rfl, rfl⟩))
      refine wp_region_env (fun w' => w'.cell? ⟨w.heap.size, 0, none⟩ = some (.int .u8 r) ∧ w'.frozen? ⟨w.heap.size, 0, none⟩ = false ∧ w'.cell? ⟨w.heap.size, 1, none⟩ = some (.int .u8 g) ∧ w'.frozen? ⟨w.heap.size, 1, none⟩ = false ∧ w'.cell? ⟨w.heap.size, 2, none⟩ = some (.int .u8 b) ∧ w'.frozen? ⟨w.heap.size, 2, none⟩ = false ∧ w'.cell? ⟨w.heap.size, 3, none⟩ = some (.int .u8 a) ∧ w'.frozen? ⟨w.heap.size, 3, none⟩ = false ∧ w'.cell? ⟨w.heap.size + 1, 0, none⟩ = some (.int .u8 s) ∧ w'.frozen? ⟨w.heap.size + 1, 0, none⟩ = false ∧ w'.cell? ⟨w.heap.size + 1, 1, none⟩ = some (.int .u8 t) ∧ w'.frozen? ⟨w.heap.size + 1, 1, none⟩ = false ∧ w'.cell? ⟨w.heap.size + 1, 2, none⟩ = some (.int .u8 u) ∧ w'.frozen? ⟨w.heap.size + 1, 2, none⟩ = false ∧ w'.cell? ⟨w.heap.size + 1, 3, none⟩ = some (.int .u8 d) ∧ w'.frozen? ⟨w.heap.size + 1, 3, none⟩ = false ∧ Nm w') (fun W => W.cell? ⟨w.heap.size, 0, none⟩ = some (.int .u8 r) ∧ W.frozen? ⟨w.heap.size, 0, none⟩ = false ∧ W.cell? ⟨w.heap.size, 1, none⟩ = some (.int .u8 g) ∧ W.frozen? ⟨w.heap.size, 1, none⟩ = false ∧ W.cell? ⟨w.heap.size, 2, none⟩ = some (.int .u8 b) ∧ W.frozen? ⟨w.heap.size, 2, none⟩ = false ∧ W.cell? ⟨w.heap.size, 3, none⟩ = some (.int .u8 a) ∧ W.frozen? ⟨w.heap.size, 3, none⟩ = false ∧ W.cell? ⟨w.heap.size + 1, 0, none⟩ = some (.int .u8 s) ∧ W.frozen? ⟨w.heap.size + 1, 0, none⟩ = false ∧ W.cell? ⟨w.heap.size + 1, 1, none⟩ = some (.int .u8 t) ∧ W.frozen? ⟨w.heap.size + 1, 1, none⟩ = false ∧ W.cell? ⟨w.heap.size + 1, 2, none⟩ = some (.int .u8 u) ∧ W.frozen? ⟨w.heap.size + 1, 2, none⟩ = false ∧ W.cell? ⟨w.heap.size + 1, 3, none⟩ = some (.int .u8 d) ∧ W.frozen? ⟨w.heap.size + 1, 3, none⟩ = false ∧ Nm W ∧ Below w.heap.size w W ∧ w.heap.size + 1 + 1 ≤ W.heap.size) 6 53 [.val (.agg #[.int .u8 r, .int .u8 g, .int .u8 b, .int .u8 a]), .call 25 #[.agg #[.int .u8 r, .int .u8 g, .int .u8 b, .int .u8 a]] (.agg #[.int .u8 cr, .int .u8 cg, .int .u8 cb, .int .u8 a]), .val (.agg #[.int .u8 s, .int .u8 t, .int .u8 u, .int .u8 d]), .call 25 #[.agg #[.int .u8 s, .int .u8 t, .int .u8 u, .int .u8 d]] (.agg #[.int .u8 cs, .int .u8 ct, .int .u8 cu, .int .u8 d]), .fresh (.cells #[.int .u8 0, .int .u8 0, .int .u8 0, .int .u8 0] 31), .fresh (.cells #[.int .u8 0, .int .u8 0, .int .u8 0, .int .u8 0] 31)] (by kernel_rfl) (by kernel_rfl) rfl (by kernel_rfl) (by rintro w1 w2 ⟨h0, h1, h2, h3, h4, h5, h6, h7, h8, h9, h10, h11, h12, h13, h14, h15, h16⟩ hb; exact ⟨bcs hb h0, bfs hb h0 h1, bcs hb h2, bfs hb h2 h3, bcs hb h4, bfs hb h4 h5, bcs hb h6, bfs hb h6 h7, bcs hb h8, bfs hb h8 h9, bcs hb h10, bfs hb h10 h11, bcs hb h12, bfs hb h12 h13, bcs hb h14, bfs hb h14 h15, Nm.below h16 hb⟩) ⟨by first | with_reducible assumption | go_simp, by first | with_reducible assumption | go_simp, by first | with_reducible assumption | go_simp, by first | with_reducible assumption | go_simp, by first | with_reducible assumption | go_simp, by first | with_reducible assumption | go_simp, by first | with_reducible assumption | go_simp, by first | with_reducible assumption | go_simp, by first | with_reducible assumption | go_simp, by first | with_reducible assumption | go_simp, by first | with_reducible assumption | go_simp, by first | with_reducible assumption | go_simp, by first | with_reducible assumption | go_simp, by first | with_reducible assumption | go_simp, by first | with_reducible assumption | go_simp, by first | with_reducible assumption | go_simp, Nm.below hN (by repeat (first | with_reducible exact Below.refl _ _ | fail | with_reducible apply below_drewN | with_reducible apply Below.drew | (with_reducible refine Below.alloc ?_ (by first | (simp; done) | (simp; omega) | omega) _) | (with_reducible refine Below.setCell ?_ (by first | (simp; done) | (simp; omega) | omega) _))), by repeat (first | with_reducible exact Below.refl _ _ | fail | with_reducible apply below_drewN | with_reducible apply Below.drew | (with_reducible refine Below.alloc ?_ (by first | (simp; done) | (simp; omega) | omega) _) | (with_reducible refine Below.setCell ?_ (by first | (simp; done) | (simp; omega) | omega) _)), by first | with_reducible assumption | (simp; done) | (simp; omega)⟩ ?_ ?_
      · rintro W ⟨k1_b4_0, g1_b4_0, k1_b4_1, g1_b4_1, k1_b4_2, g1_b4_2, k1_b4_3, g1_b4_3, k1_b5_0, g1_b5_0, k1_b5_1, g1_b5_1, k1_b5_2, g1_b5_2, k1_b5_3, g1_b5_3, e1_0, B1, z1⟩; exact ⟨k1_b4_0, g1_b4_0, k1_b4_1, g1_b4_1, k1_b4_2, g1_b4_2, k1_b4_3, g1_b4_3, k1_b5_0, g1_b5_0, k1_b5_1, g1_b5_1, k1_b5_2, g1_b5_2, k1_b5_3, g1_b5_3, e1_0⟩
      rintro w1 ⟨k1_b4_0, g1_b4_0, k1_b4_1, g1_b4_1, k1_b4_2, g1_b4_2, k1_b4_3, g1_b4_3, k1_b5_0, g1_b5_0, k1_b5_1, g1_b5_1, k1_b5_2, g1_b5_2, k1_b5_3, g1_b5_3, e1_0, B1, z1⟩ gg
      simp only [List.take_succ_cons, List.take_zero, List.drop_succ_cons, List.drop_zero, List.cons_append, List.nil_append, List.append_nil]
      refine obe_val (by rfl) ?_ ?_
      · clear k1_b4_0 g1_b4_0 k1_b4_1 g1_b4_1 k1_b4_2 g1_b4_2 k1_b4_3 g1_b4_3 k1_b5_0 g1_b5_0 k1_b5_1 g1_b5_1 k1_b5_2 g1_b5_2 k1_b5_3 g1_b5_3 e1_0 B1 z1; intro f hf; have u4 : f 4 = (.pointer (some ⟨w.heap.size, 0, none⟩)) := (by rw [← hf]; rfl); clear hf; rintro w' ⟨h0, h1, h2, h3, h4, h5, h6, h7, h8, h9, h10, h11, h12, h13, h14, h15, h16⟩; go_simp; try exact IntWalk.i64_in _ (by omega)
      refine obe_call (by rfl) ?_ ?_ ?_
      · clear k1_b4_0 g1_b4_0 k1_b4_1 g1_b4_1 k1_b4_2 g1_b4_2 k1_b4_3 g1_b4_3 k1_b5_0 g1_b5_0 k1_b5_1 g1_b5_1 k1_b5_2 g1_b5_2 k1_b5_3 g1_b5_3 e1_0 B1 z1; intro f hf; have u14 : f 14 = (.agg #[.int .u8 r, .int .u8 g, .int .u8 b, .int .u8 a]) := (by rw [← hf]; rfl); clear hf; intro w' _; simp only [execOp, resolve, invoke, rhoF_tmp, rhoF_func, rhoF_const, u14, List.map_toArray, List.map_cons, List.map_nil]; go_simp
      · clear k1_b4_0 g1_b4_0 k1_b4_1 g1_b4_1 k1_b4_2 g1_b4_2 k1_b4_3 g1_b4_3 k1_b5_0 g1_b5_0 k1_b5_1 g1_b5_1 k1_b5_2 g1_b5_2 k1_b5_3 g1_b5_3 e1_0 B1 z1; rintro w' ⟨h0, h1, h2, h3, h4, h5, h6, h7, h8, h9, h10, h11, h12, h13, h14, h15, h16⟩; exact rpclamp_any r g b a cr cg cb hr hg hb _
      refine obe_val (by rfl) ?_ ?_
      · clear k1_b4_0 g1_b4_0 k1_b4_1 g1_b4_1 k1_b4_2 g1_b4_2 k1_b4_3 g1_b4_3 k1_b5_0 g1_b5_0 k1_b5_1 g1_b5_1 k1_b5_2 g1_b5_2 k1_b5_3 g1_b5_3 e1_0 B1 z1; intro f hf; have u5 : f 5 = (.pointer (some ⟨w.heap.size + 1, 0, none⟩)) := (by rw [← hf]; rfl); clear hf; rintro w' ⟨h0, h1, h2, h3, h4, h5, h6, h7, h8, h9, h10, h11, h12, h13, h14, h15, h16⟩; go_simp; try exact IntWalk.i64_in _ (by omega)
      refine obe_call (by rfl) ?_ ?_ ?_
      · clear k1_b4_0 g1_b4_0 k1_b4_1 g1_b4_1 k1_b4_2 g1_b4_2 k1_b4_3 g1_b4_3 k1_b5_0 g1_b5_0 k1_b5_1 g1_b5_1 k1_b5_2 g1_b5_2 k1_b5_3 g1_b5_3 e1_0 B1 z1; intro f hf; have u16 : f 16 = (.agg #[.int .u8 s, .int .u8 t, .int .u8 u, .int .u8 d]) := (by rw [← hf]; rfl); clear hf; intro w' _; simp only [execOp, resolve, invoke, rhoF_tmp, rhoF_func, rhoF_const, u16, List.map_toArray, List.map_cons, List.map_nil]; go_simp
      · clear k1_b4_0 g1_b4_0 k1_b4_1 g1_b4_1 k1_b4_2 g1_b4_2 k1_b4_3 g1_b4_3 k1_b5_0 g1_b5_0 k1_b5_1 g1_b5_1 k1_b5_2 g1_b5_2 k1_b5_3 g1_b5_3 e1_0 B1 z1; rintro w' ⟨h0, h1, h2, h3, h4, h5, h6, h7, h8, h9, h10, h11, h12, h13, h14, h15, h16⟩; exact rpclamp_any s t u d cs ct cu hs ht hu _
      refine obe_fresh (by rfl) ?_ ?_
      · clear k1_b4_0 g1_b4_0 k1_b4_1 g1_b4_1 k1_b4_2 g1_b4_2 k1_b4_3 g1_b4_3 k1_b5_0 g1_b5_0 k1_b5_1 g1_b5_1 k1_b5_2 g1_b5_2 k1_b5_3 g1_b5_3 e1_0 B1 z1; intro f hf; clear hf; rintro w' ⟨h0, h1, h2, h3, h4, h5, h6, h7, h8, h9, h10, h11, h12, h13, h14, h15, h16⟩; go_simp
      refine obe_fresh (by rfl) ?_ ?_
      · clear k1_b4_0 g1_b4_0 k1_b4_1 g1_b4_1 k1_b4_2 g1_b4_2 k1_b4_3 g1_b4_3 k1_b5_0 g1_b5_0 k1_b5_1 g1_b5_1 k1_b5_2 g1_b5_2 k1_b5_3 g1_b5_3 e1_0 B1 z1; intro f hf; clear hf; rintro w' ⟨h0, h1, h2, h3, h4, h5, h6, h7, h8, h9, h10, h11, h12, h13, h14, h15, h16⟩; go_simp
      refine obe_nil ?_
      rintro w2 ⟨h0, h1, h2, h3, h4, h5, h6, h7, h8, h9, h10, h11, h12, h13, h14, h15, h16⟩ hb2 hF
      (try simp only [List.nil_append, List.append_nil, List.cons_append] at hF)
      simp only [puts, putD, Act.put, List.setIfInBounds_toArray, List.set_cons_zero, List.set_cons_succ]
      have lg7 : w1.heap.size ≤ gg 4 := hF.1.1
      have ug7 : gg 4 < w2.heap.size := hF.1.2.1
      have pg7 : w2.heap[gg 4]? = some (.cells #[.int .u8 0, .int .u8 0, .int .u8 0, .int .u8 0] 31) := hF.1.2.2
      have ng7_g8 : ¬ gg 4 = gg 5 := hF.2.1 (5, .cells #[.int .u8 0, .int .u8 0, .int .u8 0, .int .u8 0] 31) (by simp)
      have lg8 : w1.heap.size ≤ gg 5 := hF.2.2.1.1
      have ug8 : gg 5 < w2.heap.size := hF.2.2.1.2.1
      have pg8 : w2.heap[gg 5]? = some (.cells #[.int .u8 0, .int .u8 0, .int .u8 0, .int .u8 0] 31) := hF.2.2.1.2.2
      clear hF
      obtain ⟨g7, eg7⟩ : ∃ x, gg 4 = x := ⟨_, rfl⟩
      rw [eg7] at lg7 ug7 pg7 ng7_g8 ⊢
      clear eg7
      obtain ⟨g8, eg8⟩ : ∃ x, gg 5 = x := ⟨_, rfl⟩
      rw [eg8] at lg8 ug8 pg8 ng7_g8 ⊢
      clear eg8
      clear gg
      have k2_b4_0 := bcs hb2 k1_b4_0
      have g2_b4_0 := bfs hb2 k1_b4_0 g1_b4_0
      have k2_b4_1 := bcs hb2 k1_b4_1
      have g2_b4_1 := bfs hb2 k1_b4_1 g1_b4_1
      have k2_b4_2 := bcs hb2 k1_b4_2
      have g2_b4_2 := bfs hb2 k1_b4_2 g1_b4_2
      have k2_b4_3 := bcs hb2 k1_b4_3
      have g2_b4_3 := bfs hb2 k1_b4_3 g1_b4_3
      have k2_b5_0 := bcs hb2 k1_b5_0
      have g2_b5_0 := bfs hb2 k1_b5_0 g1_b5_0
      have k2_b5_1 := bcs hb2 k1_b5_1
      have g2_b5_1 := bfs hb2 k1_b5_1 g1_b5_1
      have k2_b5_2 := bcs hb2 k1_b5_2
      have g2_b5_2 := bfs hb2 k1_b5_2 g1_b5_2
      have k2_b5_3 := bcs hb2 k1_b5_3
      have g2_b5_3 := bfs hb2 k1_b5_3 g1_b5_3
      clear h0 h1 h2 h3 h4 h5 h6 h7 h8 h9 h10 h11 h12 h13 h14 h15 h16
      have B2 := bel_step B1 hb2
      have z2 := Nat.le_trans z1 hb2.size
      have e2_0 := Nm.below hN B2
      have mg7 : w.heap.size ≤ g7 := by omega
      have ng7_b4 : ¬ g7 = w.heap.size := by omega
      have nb4_g7 : ¬ w.heap.size = g7 := by omega
      have ng7_b5 : ¬ g7 = w.heap.size + 1 := by omega
      have nb5_g7 : ¬ w.heap.size + 1 = g7 := by omega
      have k2_g7_0 : w2.cell? ⟨g7, 0, none⟩ = some (.int .u8 0) := cob pg7 0 rfl
      have g2_g7_0 : w2.frozen? ⟨g7, 0, none⟩ = false := fob pg7 0
      have k2_g7_1 : w2.cell? ⟨g7, 1, none⟩ = some (.int .u8 0) := cob pg7 1 rfl
      have g2_g7_1 : w2.frozen? ⟨g7, 1, none⟩ = false := fob pg7 1
      have k2_g7_2 : w2.cell? ⟨g7, 2, none⟩ = some (.int .u8 0) := cob pg7 2 rfl
      have g2_g7_2 : w2.frozen? ⟨g7, 2, none⟩ = false := fob pg7 2
      have k2_g7_3 : w2.cell? ⟨g7, 3, none⟩ = some (.int .u8 0) := cob pg7 3 rfl
      have g2_g7_3 : w2.frozen? ⟨g7, 3, none⟩ = false := fob pg7 3
      have mg8 : w.heap.size ≤ g8 := by omega
      have ng8_b4 : ¬ g8 = w.heap.size := by omega
      have nb4_g8 : ¬ w.heap.size = g8 := by omega
      have ng8_b5 : ¬ g8 = w.heap.size + 1 := by omega
      have nb5_g8 : ¬ w.heap.size + 1 = g8 := by omega
      have k2_g8_0 : w2.cell? ⟨g8, 0, none⟩ = some (.int .u8 0) := cob pg8 0 rfl
      have g2_g8_0 : w2.frozen? ⟨g8, 0, none⟩ = false := fob pg8 0
      have k2_g8_1 : w2.cell? ⟨g8, 1, none⟩ = some (.int .u8 0) := cob pg8 1 rfl
      have g2_g8_1 : w2.frozen? ⟨g8, 1, none⟩ = false := fob pg8 1
      have k2_g8_2 : w2.cell? ⟨g8, 2, none⟩ = some (.int .u8 0) := cob pg8 2 rfl
      have g2_g8_2 : w2.frozen? ⟨g8, 2, none⟩ = false := fob pg8 2
      have k2_g8_3 : w2.cell? ⟨g8, 3, none⟩ = some (.int .u8 0) := cob pg8 3 rfl
      have g2_g8_3 : w2.frozen? ⟨g8, 3, none⟩ = false := fob pg8 3
      have ng8_g7 : ¬ g8 = g7 := fun h => ng7_g8 h.symm
      clear lg7 ug7 pg7
      clear lg8 ug8 pg8
      clear hb2
      (try clear B1)
      (try clear z1)
      (try clear k1_b4_0)
      (try clear g1_b4_0)
      (try clear k1_b4_1)
      (try clear g1_b4_1)
      (try clear k1_b4_2)
      (try clear g1_b4_2)
      (try clear k1_b4_3)
      (try clear g1_b4_3)
      (try clear k1_b5_0)
      (try clear g1_b5_0)
      (try clear k1_b5_1)
      (try clear g1_b5_1)
      (try clear k1_b5_2)
      (try clear g1_b5_2)
      (try clear k1_b5_3)
      (try clear g1_b5_3)
      (try clear e1_0)
      (try clear q1_b4)
      (try clear x1_b4)
      (try clear y1_b4)
      (try clear q1_b5)
      (try clear x1_b5)
      (try clear y1_b5)
      have q2_b4 : w.heap.size < w2.heap.size := qlt k2_b4_0
      have x2_b4 : ¬ w.heap.size = w2.heap.size := qne k2_b4_0
      have y2_b4 : ¬ w2.heap.size = w.heap.size := fun h => qne k2_b4_0 h.symm
      have q2_b5 : w.heap.size + 1 < w2.heap.size := qlt k2_b5_0
      have x2_b5 : ¬ w.heap.size + 1 = w2.heap.size := qne k2_b5_0
      have y2_b5 : ¬ w2.heap.size = w.heap.size + 1 := fun h => qne k2_b5_0 h.symm
      have q2_g7 : g7 < w2.heap.size := qlt k2_g7_0
      have x2_g7 : ¬ g7 = w2.heap.size := qne k2_g7_0
      have y2_g7 : ¬ w2.heap.size = g7 := fun h => qne k2_g7_0 h.symm
      have q2_g8 : g8 < w2.heap.size := qlt k2_g8_0
      have x2_g8 : ¬ g8 = w2.heap.size := qne k2_g8_0
      have y2_g8 : ¬ w2.heap.size = g8 := fun h => qne k2_g8_0 h.symm
      go_wp2_with (first | (go_at_call 21; (with_reducible refine (ctm _).mono ?_); rintro e w9 ⟨rfl, rfl⟩))
      refine wp_region_env (fun w' => w'.cell? ⟨w.heap.size, 0, none⟩ = some (.int .u8 r) ∧ w'.frozen? ⟨w.heap.size, 0, none⟩ = false ∧ w'.cell? ⟨w.heap.size, 1, none⟩ = some (.int .u8 g) ∧ w'.frozen? ⟨w.heap.size, 1, none⟩ = false ∧ w'.cell? ⟨w.heap.size, 2, none⟩ = some (.int .u8 b) ∧ w'.frozen? ⟨w.heap.size, 2, none⟩ = false ∧ w'.cell? ⟨w.heap.size, 3, none⟩ = some (.int .u8 a) ∧ w'.frozen? ⟨w.heap.size, 3, none⟩ = false ∧ w'.cell? ⟨w.heap.size + 1, 0, none⟩ = some (.int .u8 s) ∧ w'.frozen? ⟨w.heap.size + 1, 0, none⟩ = false ∧ w'.cell? ⟨w.heap.size + 1, 1, none⟩ = some (.int .u8 t) ∧ w'.frozen? ⟨w.heap.size + 1, 1, none⟩ = false ∧ w'.cell? ⟨w.heap.size + 1, 2, none⟩ = some (.int .u8 u) ∧ w'.frozen? ⟨w.heap.size + 1, 2, none⟩ = false ∧ w'.cell? ⟨w.heap.size + 1, 3, none⟩ = some (.int .u8 d) ∧ w'.frozen? ⟨w.heap.size + 1, 3, none⟩ = false ∧ w'.cell? ⟨g7, 0, none⟩ = some (.int .u8 cr) ∧ w'.frozen? ⟨g7, 0, none⟩ = false ∧ w'.cell? ⟨g7, 1, none⟩ = some (.int .u8 cg) ∧ w'.frozen? ⟨g7, 1, none⟩ = false ∧ w'.cell? ⟨g7, 2, none⟩ = some (.int .u8 cb) ∧ w'.frozen? ⟨g7, 2, none⟩ = false ∧ w'.cell? ⟨g7, 3, none⟩ = some (.int .u8 a) ∧ w'.frozen? ⟨g7, 3, none⟩ = false ∧ w'.cell? ⟨g8, 0, none⟩ = some (.int .u8 cs) ∧ w'.frozen? ⟨g8, 0, none⟩ = false ∧ w'.cell? ⟨g8, 1, none⟩ = some (.int .u8 ct) ∧ w'.frozen? ⟨g8, 1, none⟩ = false ∧ w'.cell? ⟨g8, 2, none⟩ = some (.int .u8 cu) ∧ w'.frozen? ⟨g8, 2, none⟩ = false ∧ w'.cell? ⟨g8, 3, none⟩ = some (.int .u8 d) ∧ w'.frozen? ⟨g8, 3, none⟩ = false ∧ Nm w') (fun W => W.cell? ⟨w.heap.size, 0, none⟩ = some (.int .u8 r) ∧ W.frozen? ⟨w.heap.size, 0, none⟩ = false ∧ W.cell? ⟨w.heap.size, 1, none⟩ = some (.int .u8 g) ∧ W.frozen? ⟨w.heap.size, 1, none⟩ = false ∧ W.cell? ⟨w.heap.size, 2, none⟩ = some (.int .u8 b) ∧ W.frozen? ⟨w.heap.size, 2, none⟩ = false ∧ W.cell? ⟨w.heap.size, 3, none⟩ = some (.int .u8 a) ∧ W.frozen? ⟨w.heap.size, 3, none⟩ = false ∧ W.cell? ⟨w.heap.size + 1, 0, none⟩ = some (.int .u8 s) ∧ W.frozen? ⟨w.heap.size + 1, 0, none⟩ = false ∧ W.cell? ⟨w.heap.size + 1, 1, none⟩ = some (.int .u8 t) ∧ W.frozen? ⟨w.heap.size + 1, 1, none⟩ = false ∧ W.cell? ⟨w.heap.size + 1, 2, none⟩ = some (.int .u8 u) ∧ W.frozen? ⟨w.heap.size + 1, 2, none⟩ = false ∧ W.cell? ⟨w.heap.size + 1, 3, none⟩ = some (.int .u8 d) ∧ W.frozen? ⟨w.heap.size + 1, 3, none⟩ = false ∧ W.cell? ⟨g7, 0, none⟩ = some (.int .u8 cr) ∧ W.frozen? ⟨g7, 0, none⟩ = false ∧ W.cell? ⟨g7, 1, none⟩ = some (.int .u8 cg) ∧ W.frozen? ⟨g7, 1, none⟩ = false ∧ W.cell? ⟨g7, 2, none⟩ = some (.int .u8 cb) ∧ W.frozen? ⟨g7, 2, none⟩ = false ∧ W.cell? ⟨g7, 3, none⟩ = some (.int .u8 a) ∧ W.frozen? ⟨g7, 3, none⟩ = false ∧ W.cell? ⟨g8, 0, none⟩ = some (.int .u8 cs) ∧ W.frozen? ⟨g8, 0, none⟩ = false ∧ W.cell? ⟨g8, 1, none⟩ = some (.int .u8 ct) ∧ W.frozen? ⟨g8, 1, none⟩ = false ∧ W.cell? ⟨g8, 2, none⟩ = some (.int .u8 cu) ∧ W.frozen? ⟨g8, 2, none⟩ = false ∧ W.cell? ⟨g8, 3, none⟩ = some (.int .u8 d) ∧ W.frozen? ⟨g8, 3, none⟩ = false ∧ Nm W ∧ Below w.heap.size w W ∧ w.heap.size + 1 + 1 ≤ W.heap.size) 22 53 [.val (.int .i64 m), .val (.agg #[.int .u8 r, .int .u8 g, .int .u8 b, .int .u8 a]), .val (.agg #[.int .u8 s, .int .u8 t, .int .u8 u, .int .u8 d]), .call 23 #[.int .i64 m, .agg #[.int .u8 r, .int .u8 g, .int .u8 b, .int .u8 a], .agg #[.int .u8 s, .int .u8 t, .int .u8 u, .int .u8 d]] (.agg #[.int .u8 q0, .int .u8 q1, .int .u8 q2, .int .u8 al]), .val (.int .u8 al), .val (.agg #[.int .u8 r, .int .u8 g, .int .u8 b, .int .u8 a]), .val (.agg #[.int .u8 s, .int .u8 t, .int .u8 u, .int .u8 d]), .call 23 #[.int .i64 1, .agg #[.int .u8 r, .int .u8 g, .int .u8 b, .int .u8 a], .agg #[.int .u8 s, .int .u8 t, .int .u8 u, .int .u8 d]] (.agg #[.int .u8 p0, .int .u8 p1, .int .u8 p2, .int .u8 al]), .val (.int .u8 al), .val (.bool true), .val (.bool true), .val (.int .i64 m), .val (.bool true), .val (.bool true), .skip, .skip, .val (.bool true), .val (.bool true), .val (.bool true), .call 20 #[] (.bool true), .val (.bool true), .val (.bool true)] (by kernel_rfl) (by kernel_rfl) rfl (by kernel_rfl) (by rintro w1 w2 ⟨h0, h1, h2, h3, h4, h5, h6, h7, h8, h9, h10, h11, h12, h13, h14, h15, h16, h17, h18, h19, h20, h21, h22, h23, h24, h25, h26, h27, h28, h29, h30, h31, h32⟩ hb; exact ⟨bcs hb h0, bfs hb h0 h1, bcs hb h2, bfs hb h2 h3, bcs hb h4, bfs hb h4 h5, bcs hb h6, bfs hb h6 h7, bcs hb h8, bfs hb h8 h9, bcs hb h10, bfs hb h10 h11, bcs hb h12, bfs hb h12 h13, bcs hb h14, bfs hb h14 h15, bcs hb h16, bfs hb h16 h17, bcs hb h18, bfs hb h18 h19, bcs hb h20, bfs hb h20 h21, bcs hb h22, bfs hb h22 h23, bcs hb h24, bfs hb h24 h25, bcs hb h26, bfs hb h26 h27, bcs hb h28, bfs hb h28 h29, bcs hb h30, bfs hb h30 h31, Nm.below h32 hb⟩) ⟨by first | with_reducible assumption | go_simp, by first | with_reducible assumption | go_simp, by first | with_reducible assumption | go_simp, by first | with_reducible assumption | go_simp, by first | with_reducible assumption | go_simp, by first | with_reducible assumption | go_simp, by first | with_reducible assumption | go_simp, by first | with_reducible assumption | go_simp, by first | with_reducible assumption | go_simp, by first | with_reducible assumption | go_simp, by first | with_reducible assumption | go_simp, by first | with_reducible assumption | go_simp, by first | with_reducible assumption | go_simp, by first | with_reducible assumption | go_simp, by first | with_reducible assumption | go_simp, by first | with_reducible assumption | go_simp, by first | with_reducible assumption | go_simp, by first | with_reducible assumption | go_simp, by first | with_reducible assumption | go_simp, by first | with_reducible assumption | go_simp, by first | with_reducible assumption | go_simp, by first | with_reducible assumption | go_simp, by first | with_reducible assumption | go_simp, by first | with_reducible assumption | go_simp, by first | with_reducible assumption | go_simp, by first | with_reducible assumption | go_simp, by first | with_reducible assumption | go_simp, by first | with_reducible assumption | go_simp, by first | with_reducible assumption | go_simp, by first | with_reducible assumption | go_simp, by first | with_reducible assumption | go_simp, by first | with_reducible assumption | go_simp, Nm.below hN (by repeat (first | with_reducible exact Below.refl _ _ | with_reducible exact B2 | with_reducible apply below_drewN | with_reducible apply Below.drew | (with_reducible refine Below.alloc ?_ (by first | (simp; done) | (simp; omega) | omega) _) | (with_reducible refine Below.setCell ?_ (by first | (simp; done) | (simp; omega) | omega) _))), by repeat (first | with_reducible exact Below.refl _ _ | with_reducible exact B2 | with_reducible apply below_drewN | with_reducible apply Below.drew | (with_reducible refine Below.alloc ?_ (by first | (simp; done) | (simp; omega) | omega) _) | (with_reducible refine Below.setCell ?_ (by first | (simp; done) | (simp; omega) | omega) _)), by first | with_reducible assumption | (simp; done) | (simp; omega)⟩ ?_ ?_
      · rintro W ⟨k3_b4_0, g3_b4_0, k3_b4_1, g3_b4_1, k3_b4_2, g3_b4_2, k3_b4_3, g3_b4_3, k3_b5_0, g3_b5_0, k3_b5_1, g3_b5_1, k3_b5_2, g3_b5_2, k3_b5_3, g3_b5_3, k3_g7_0, g3_g7_0, k3_g7_1, g3_g7_1, k3_g7_2, g3_g7_2, k3_g7_3, g3_g7_3, k3_g8_0, g3_g8_0, k3_g8_1, g3_g8_1, k3_g8_2, g3_g8_2, k3_g8_3, g3_g8_3, e3_0, B3, z3⟩; exact ⟨k3_b4_0, g3_b4_0, k3_b4_1, g3_b4_1, k3_b4_2, g3_b4_2, k3_b4_3, g3_b4_3, k3_b5_0, g3_b5_0, k3_b5_1, g3_b5_1, k3_b5_2, g3_b5_2, k3_b5_3, g3_b5_3, k3_g7_0, g3_g7_0, k3_g7_1, g3_g7_1, k3_g7_2, g3_g7_2, k3_g7_3, g3_g7_3, k3_g8_0, g3_g8_0, k3_g8_1, g3_g8_1, k3_g8_2, g3_g8_2, k3_g8_3, g3_g8_3, e3_0⟩
      (try clear B2)
      (try clear z2)
      (try clear k2_b4_0)
      (try clear g2_b4_0)
      (try clear k2_b4_1)
      (try clear g2_b4_1)
      (try clear k2_b4_2)
      (try clear g2_b4_2)
      (try clear k2_b4_3)
      (try clear g2_b4_3)
      (try clear k2_b5_0)
      (try clear g2_b5_0)
      (try clear k2_b5_1)
      (try clear g2_b5_1)
      (try clear k2_b5_2)
      (try clear g2_b5_2)
      (try clear k2_b5_3)
      (try clear g2_b5_3)
      (try clear k2_g7_0)
      (try clear g2_g7_0)
      (try clear k2_g7_1)
      (try clear g2_g7_1)
      (try clear k2_g7_2)
      (try clear g2_g7_2)
      (try clear k2_g7_3)
      (try clear g2_g7_3)
      (try clear k2_g8_0)
      (try clear g2_g8_0)
      (try clear k2_g8_1)
      (try clear g2_g8_1)
      (try clear k2_g8_2)
      (try clear g2_g8_2)
      (try clear k2_g8_3)
      (try clear g2_g8_3)
      (try clear e2_0)
      (try clear q2_b4)
      (try clear x2_b4)
      (try clear y2_b4)
      (try clear q2_b5)
      (try clear x2_b5)
      (try clear y2_b5)
      (try clear q2_g7)
      (try clear x2_g7)
      (try clear y2_g7)
      (try clear q2_g8)
      (try clear x2_g8)
      (try clear y2_g8)
      rintro w3 ⟨k3_b4_0, g3_b4_0, k3_b4_1, g3_b4_1, k3_b4_2, g3_b4_2, k3_b4_3, g3_b4_3, k3_b5_0, g3_b5_0, k3_b5_1, g3_b5_1, k3_b5_2, g3_b5_2, k3_b5_3, g3_b5_3, k3_g7_0, g3_g7_0, k3_g7_1, g3_g7_1, k3_g7_2, g3_g7_2, k3_g7_3, g3_g7_3, k3_g8_0, g3_g8_0, k3_g8_1, g3_g8_1, k3_g8_2, g3_g8_2, k3_g8_3, g3_g8_3, e3_0, B3, z3⟩ gg
      simp only [List.take_succ_cons, List.take_zero, List.drop_succ_cons, List.drop_zero, List.cons_append, List.nil_append, List.append_nil]
      refine obe_val (by rfl) ?_ ?_
      · clear k3_b4_0 g3_b4_0 k3_b4_1 g3_b4_1 k3_b4_2 g3_b4_2 k3_b4_3 g3_b4_3 k3_b5_0 g3_b5_0 k3_b5_1 g3_b5_1 k3_b5_2 g3_b5_2 k3_b5_3 g3_b5_3 k3_g7_0 g3_g7_0 k3_g7_1 g3_g7_1 k3_g7_2 g3_g7_2 k3_g7_3 g3_g7_3 k3_g8_0 g3_g8_0 k3_g8_1 g3_g8_1 k3_g8_2 g3_g8_2 k3_g8_3 g3_g8_3 e3_0 B3 z3; intro f hf; have u0 : f 0 = (.int .i64 m) := (by rw [← hf]; rfl); clear hf; rintro w' ⟨h0, h1, h2, h3, h4, h5, h6, h7, h8, h9, h10, h11, h12, h13, h14, h15, h16, h17, h18, h19, h20, h21, h22, h23, h24, h25, h26, h27, h28, h29, h30, h31, h32⟩; go_simp; try exact IntWalk.i64_in _ (by omega)
      refine obe_val (by rfl) ?_ ?_
      · clear k3_b4_0 g3_b4_0 k3_b4_1 g3_b4_1 k3_b4_2 g3_b4_2 k3_b4_3 g3_b4_3 k3_b5_0 g3_b5_0 k3_b5_1 g3_b5_1 k3_b5_2 g3_b5_2 k3_b5_3 g3_b5_3 k3_g7_0 g3_g7_0 k3_g7_1 g3_g7_1 k3_g7_2 g3_g7_2 k3_g7_3 g3_g7_3 k3_g8_0 g3_g8_0 k3_g8_1 g3_g8_1 k3_g8_2 g3_g8_2 k3_g8_3 g3_g8_3 e3_0 B3 z3; intro f hf; have u4 : f 4 = (.pointer (some ⟨w.heap.size, 0, none⟩)) := (by rw [← hf]; rfl); clear hf; rintro w' ⟨h0, h1, h2, h3, h4, h5, h6, h7, h8, h9, h10, h11, h12, h13, h14, h15, h16, h17, h18, h19, h20, h21, h22, h23, h24, h25, h26, h27, h28, h29, h30, h31, h32⟩; go_simp; try exact IntWalk.i64_in _ (by omega)
      refine obe_val (by rfl) ?_ ?_
      · clear k3_b4_0 g3_b4_0 k3_b4_1 g3_b4_1 k3_b4_2 g3_b4_2 k3_b4_3 g3_b4_3 k3_b5_0 g3_b5_0 k3_b5_1 g3_b5_1 k3_b5_2 g3_b5_2 k3_b5_3 g3_b5_3 k3_g7_0 g3_g7_0 k3_g7_1 g3_g7_1 k3_g7_2 g3_g7_2 k3_g7_3 g3_g7_3 k3_g8_0 g3_g8_0 k3_g8_1 g3_g8_1 k3_g8_2 g3_g8_2 k3_g8_3 g3_g8_3 e3_0 B3 z3; intro f hf; have u5 : f 5 = (.pointer (some ⟨w.heap.size + 1, 0, none⟩)) := (by rw [← hf]; rfl); clear hf; rintro w' ⟨h0, h1, h2, h3, h4, h5, h6, h7, h8, h9, h10, h11, h12, h13, h14, h15, h16, h17, h18, h19, h20, h21, h22, h23, h24, h25, h26, h27, h28, h29, h30, h31, h32⟩; go_simp; try exact IntWalk.i64_in _ (by omega)
      refine obe_call (by rfl) ?_ ?_ ?_
      · clear k3_b4_0 g3_b4_0 k3_b4_1 g3_b4_1 k3_b4_2 g3_b4_2 k3_b4_3 g3_b4_3 k3_b5_0 g3_b5_0 k3_b5_1 g3_b5_1 k3_b5_2 g3_b5_2 k3_b5_3 g3_b5_3 k3_g7_0 g3_g7_0 k3_g7_1 g3_g7_1 k3_g7_2 g3_g7_2 k3_g7_3 g3_g7_3 k3_g8_0 g3_g8_0 k3_g8_1 g3_g8_1 k3_g8_2 g3_g8_2 k3_g8_3 g3_g8_3 e3_0 B3 z3; intro f hf; have u32 : f 32 = (.int .i64 m) := (by rw [← hf]; rfl); have u33 : f 33 = (.agg #[.int .u8 r, .int .u8 g, .int .u8 b, .int .u8 a]) := (by rw [← hf]; rfl); have u34 : f 34 = (.agg #[.int .u8 s, .int .u8 t, .int .u8 u, .int .u8 d]) := (by rw [← hf]; rfl); clear hf; intro w' _; simp only [execOp, resolve, invoke, rhoF_tmp, rhoF_func, rhoF_const, u32, u33, u34, List.map_toArray, List.map_cons, List.map_nil]; go_simp
      · clear k3_b4_0 g3_b4_0 k3_b4_1 g3_b4_1 k3_b4_2 g3_b4_2 k3_b4_3 g3_b4_3 k3_b5_0 g3_b5_0 k3_b5_1 g3_b5_1 k3_b5_2 g3_b5_2 k3_b5_3 g3_b5_3 k3_g7_0 g3_g7_0 k3_g7_1 g3_g7_1 k3_g7_2 g3_g7_2 k3_g7_3 g3_g7_3 k3_g8_0 g3_g8_0 k3_g8_1 g3_g8_1 k3_g8_2 g3_g8_2 k3_g8_3 g3_g8_3 e3_0 B3 z3; rintro w' ⟨h0, h1, h2, h3, h4, h5, h6, h7, h8, h9, h10, h11, h12, h13, h14, h15, h16, h17, h18, h19, h20, h21, h22, h23, h24, h25, h26, h27, h28, h29, h30, h31, h32⟩; exact cq _
      refine obe_val (by rfl) ?_ ?_
      · clear k3_b4_0 g3_b4_0 k3_b4_1 g3_b4_1 k3_b4_2 g3_b4_2 k3_b4_3 g3_b4_3 k3_b5_0 g3_b5_0 k3_b5_1 g3_b5_1 k3_b5_2 g3_b5_2 k3_b5_3 g3_b5_3 k3_g7_0 g3_g7_0 k3_g7_1 g3_g7_1 k3_g7_2 g3_g7_2 k3_g7_3 g3_g7_3 k3_g8_0 g3_g8_0 k3_g8_1 g3_g8_1 k3_g8_2 g3_g8_2 k3_g8_3 g3_g8_3 e3_0 B3 z3; intro f hf; have u35 : f 35 = (.agg #[.int .u8 q0, .int .u8 q1, .int .u8 q2, .int .u8 al]) := (by rw [← hf]; rfl); clear hf; rintro w' ⟨h0, h1, h2, h3, h4, h5, h6, h7, h8, h9, h10, h11, h12, h13, h14, h15, h16, h17, h18, h19, h20, h21, h22, h23, h24, h25, h26, h27, h28, h29, h30, h31, h32⟩; go_simp; try exact IntWalk.i64_in _ (by omega)
      refine obe_val (by rfl) ?_ ?_
      · clear k3_b4_0 g3_b4_0 k3_b4_1 g3_b4_1 k3_b4_2 g3_b4_2 k3_b4_3 g3_b4_3 k3_b5_0 g3_b5_0 k3_b5_1 g3_b5_1 k3_b5_2 g3_b5_2 k3_b5_3 g3_b5_3 k3_g7_0 g3_g7_0 k3_g7_1 g3_g7_1 k3_g7_2 g3_g7_2 k3_g7_3 g3_g7_3 k3_g8_0 g3_g8_0 k3_g8_1 g3_g8_1 k3_g8_2 g3_g8_2 k3_g8_3 g3_g8_3 e3_0 B3 z3; intro f hf; have u4 : f 4 = (.pointer (some ⟨w.heap.size, 0, none⟩)) := (by rw [← hf]; rfl); clear hf; rintro w' ⟨h0, h1, h2, h3, h4, h5, h6, h7, h8, h9, h10, h11, h12, h13, h14, h15, h16, h17, h18, h19, h20, h21, h22, h23, h24, h25, h26, h27, h28, h29, h30, h31, h32⟩; go_simp; try exact IntWalk.i64_in _ (by omega)
      refine obe_val (by rfl) ?_ ?_
      · clear k3_b4_0 g3_b4_0 k3_b4_1 g3_b4_1 k3_b4_2 g3_b4_2 k3_b4_3 g3_b4_3 k3_b5_0 g3_b5_0 k3_b5_1 g3_b5_1 k3_b5_2 g3_b5_2 k3_b5_3 g3_b5_3 k3_g7_0 g3_g7_0 k3_g7_1 g3_g7_1 k3_g7_2 g3_g7_2 k3_g7_3 g3_g7_3 k3_g8_0 g3_g8_0 k3_g8_1 g3_g8_1 k3_g8_2 g3_g8_2 k3_g8_3 g3_g8_3 e3_0 B3 z3; intro f hf; have u5 : f 5 = (.pointer (some ⟨w.heap.size + 1, 0, none⟩)) := (by rw [← hf]; rfl); clear hf; rintro w' ⟨h0, h1, h2, h3, h4, h5, h6, h7, h8, h9, h10, h11, h12, h13, h14, h15, h16, h17, h18, h19, h20, h21, h22, h23, h24, h25, h26, h27, h28, h29, h30, h31, h32⟩; go_simp; try exact IntWalk.i64_in _ (by omega)
      refine obe_call (by rfl) ?_ ?_ ?_
      · clear k3_b4_0 g3_b4_0 k3_b4_1 g3_b4_1 k3_b4_2 g3_b4_2 k3_b4_3 g3_b4_3 k3_b5_0 g3_b5_0 k3_b5_1 g3_b5_1 k3_b5_2 g3_b5_2 k3_b5_3 g3_b5_3 k3_g7_0 g3_g7_0 k3_g7_1 g3_g7_1 k3_g7_2 g3_g7_2 k3_g7_3 g3_g7_3 k3_g8_0 g3_g8_0 k3_g8_1 g3_g8_1 k3_g8_2 g3_g8_2 k3_g8_3 g3_g8_3 e3_0 B3 z3; intro f hf; have u37 : f 37 = (.agg #[.int .u8 r, .int .u8 g, .int .u8 b, .int .u8 a]) := (by rw [← hf]; rfl); have u38 : f 38 = (.agg #[.int .u8 s, .int .u8 t, .int .u8 u, .int .u8 d]) := (by rw [← hf]; rfl); clear hf; intro w' _; simp only [execOp, resolve, invoke, rhoF_tmp, rhoF_func, rhoF_const, u37, u38, List.map_toArray, List.map_cons, List.map_nil]; go_simp
      · clear k3_b4_0 g3_b4_0 k3_b4_1 g3_b4_1 k3_b4_2 g3_b4_2 k3_b4_3 g3_b4_3 k3_b5_0 g3_b5_0 k3_b5_1 g3_b5_1 k3_b5_2 g3_b5_2 k3_b5_3 g3_b5_3 k3_g7_0 g3_g7_0 k3_g7_1 g3_g7_1 k3_g7_2 g3_g7_2 k3_g7_3 g3_g7_3 k3_g8_0 g3_g8_0 k3_g8_1 g3_g8_1 k3_g8_2 g3_g8_2 k3_g8_3 g3_g8_3 e3_0 B3 z3; rintro w' ⟨h0, h1, h2, h3, h4, h5, h6, h7, h8, h9, h10, h11, h12, h13, h14, h15, h16, h17, h18, h19, h20, h21, h22, h23, h24, h25, h26, h27, h28, h29, h30, h31, h32⟩; exact cp _
      refine obe_val (by rfl) ?_ ?_
      · clear k3_b4_0 g3_b4_0 k3_b4_1 g3_b4_1 k3_b4_2 g3_b4_2 k3_b4_3 g3_b4_3 k3_b5_0 g3_b5_0 k3_b5_1 g3_b5_1 k3_b5_2 g3_b5_2 k3_b5_3 g3_b5_3 k3_g7_0 g3_g7_0 k3_g7_1 g3_g7_1 k3_g7_2 g3_g7_2 k3_g7_3 g3_g7_3 k3_g8_0 g3_g8_0 k3_g8_1 g3_g8_1 k3_g8_2 g3_g8_2 k3_g8_3 g3_g8_3 e3_0 B3 z3; intro f hf; have u39 : f 39 = (.agg #[.int .u8 p0, .int .u8 p1, .int .u8 p2, .int .u8 al]) := (by rw [← hf]; rfl); clear hf; rintro w' ⟨h0, h1, h2, h3, h4, h5, h6, h7, h8, h9, h10, h11, h12, h13, h14, h15, h16, h17, h18, h19, h20, h21, h22, h23, h24, h25, h26, h27, h28, h29, h30, h31, h32⟩; go_simp; try exact IntWalk.i64_in _ (by omega)
      refine obe_val (by rfl) ?_ ?_
      · clear k3_b4_0 g3_b4_0 k3_b4_1 g3_b4_1 k3_b4_2 g3_b4_2 k3_b4_3 g3_b4_3 k3_b5_0 g3_b5_0 k3_b5_1 g3_b5_1 k3_b5_2 g3_b5_2 k3_b5_3 g3_b5_3 k3_g7_0 g3_g7_0 k3_g7_1 g3_g7_1 k3_g7_2 g3_g7_2 k3_g7_3 g3_g7_3 k3_g8_0 g3_g8_0 k3_g8_1 g3_g8_1 k3_g8_2 g3_g8_2 k3_g8_3 g3_g8_3 e3_0 B3 z3; intro f hf; have u36 : f 36 = (.int .u8 al) := (by rw [← hf]; rfl); have u40 : f 40 = (.int .u8 al) := (by rw [← hf]; rfl); clear hf; rintro w' ⟨h0, h1, h2, h3, h4, h5, h6, h7, h8, h9, h10, h11, h12, h13, h14, h15, h16, h17, h18, h19, h20, h21, h22, h23, h24, h25, h26, h27, h28, h29, h30, h31, h32⟩; go_simp; try exact IntWalk.i64_in _ (by omega)
      refine obe_val (by rfl) ?_ ?_
      · clear k3_b4_0 g3_b4_0 k3_b4_1 g3_b4_1 k3_b4_2 g3_b4_2 k3_b4_3 g3_b4_3 k3_b5_0 g3_b5_0 k3_b5_1 g3_b5_1 k3_b5_2 g3_b5_2 k3_b5_3 g3_b5_3 k3_g7_0 g3_g7_0 k3_g7_1 g3_g7_1 k3_g7_2 g3_g7_2 k3_g7_3 g3_g7_3 k3_g8_0 g3_g8_0 k3_g8_1 g3_g8_1 k3_g8_2 g3_g8_2 k3_g8_3 g3_g8_3 e3_0 B3 z3; intro f hf; have u41 : f 41 = (.bool true) := (by rw [← hf]; rfl); clear hf; rintro w' ⟨h0, h1, h2, h3, h4, h5, h6, h7, h8, h9, h10, h11, h12, h13, h14, h15, h16, h17, h18, h19, h20, h21, h22, h23, h24, h25, h26, h27, h28, h29, h30, h31, h32⟩; go_simp; try exact IntWalk.i64_in _ (by omega)
      refine obe_val (by rfl) ?_ ?_
      · clear k3_b4_0 g3_b4_0 k3_b4_1 g3_b4_1 k3_b4_2 g3_b4_2 k3_b4_3 g3_b4_3 k3_b5_0 g3_b5_0 k3_b5_1 g3_b5_1 k3_b5_2 g3_b5_2 k3_b5_3 g3_b5_3 k3_g7_0 g3_g7_0 k3_g7_1 g3_g7_1 k3_g7_2 g3_g7_2 k3_g7_3 g3_g7_3 k3_g8_0 g3_g8_0 k3_g8_1 g3_g8_1 k3_g8_2 g3_g8_2 k3_g8_3 g3_g8_3 e3_0 B3 z3; intro f hf; have u0 : f 0 = (.int .i64 m) := (by rw [← hf]; rfl); clear hf; rintro w' ⟨h0, h1, h2, h3, h4, h5, h6, h7, h8, h9, h10, h11, h12, h13, h14, h15, h16, h17, h18, h19, h20, h21, h22, h23, h24, h25, h26, h27, h28, h29, h30, h31, h32⟩; go_simp; try exact IntWalk.i64_in _ (by omega)
      refine obe_val (by rfl) ?_ ?_
      · clear k3_b4_0 g3_b4_0 k3_b4_1 g3_b4_1 k3_b4_2 g3_b4_2 k3_b4_3 g3_b4_3 k3_b5_0 g3_b5_0 k3_b5_1 g3_b5_1 k3_b5_2 g3_b5_2 k3_b5_3 g3_b5_3 k3_g7_0 g3_g7_0 k3_g7_1 g3_g7_1 k3_g7_2 g3_g7_2 k3_g7_3 g3_g7_3 k3_g8_0 g3_g8_0 k3_g8_1 g3_g8_1 k3_g8_2 g3_g8_2 k3_g8_3 g3_g8_3 e3_0 B3 z3; intro f hf; have u43 : f 43 = (.int .i64 m) := (by rw [← hf]; rfl); clear hf; rintro w' ⟨h0, h1, h2, h3, h4, h5, h6, h7, h8, h9, h10, h11, h12, h13, h14, h15, h16, h17, h18, h19, h20, h21, h22, h23, h24, h25, h26, h27, h28, h29, h30, h31, h32⟩; go_simp; try exact IntWalk.i64_in _ (by omega)
      refine obe_val (by rfl) ?_ ?_
      · clear k3_b4_0 g3_b4_0 k3_b4_1 g3_b4_1 k3_b4_2 g3_b4_2 k3_b4_3 g3_b4_3 k3_b5_0 g3_b5_0 k3_b5_1 g3_b5_1 k3_b5_2 g3_b5_2 k3_b5_3 g3_b5_3 k3_g7_0 g3_g7_0 k3_g7_1 g3_g7_1 k3_g7_2 g3_g7_2 k3_g7_3 g3_g7_3 k3_g8_0 g3_g8_0 k3_g8_1 g3_g8_1 k3_g8_2 g3_g8_2 k3_g8_3 g3_g8_3 e3_0 B3 z3; intro f hf; have u44 : f 44 = (.bool true) := (by rw [← hf]; rfl); clear hf; rintro w' ⟨h0, h1, h2, h3, h4, h5, h6, h7, h8, h9, h10, h11, h12, h13, h14, h15, h16, h17, h18, h19, h20, h21, h22, h23, h24, h25, h26, h27, h28, h29, h30, h31, h32⟩; go_simp; try exact IntWalk.i64_in _ (by omega)
      refine obe_skip (by rfl) ?_
      refine obe_skip (by rfl) ?_
      refine obe_val (by rfl) ?_ ?_
      · clear k3_b4_0 g3_b4_0 k3_b4_1 g3_b4_1 k3_b4_2 g3_b4_2 k3_b4_3 g3_b4_3 k3_b5_0 g3_b5_0 k3_b5_1 g3_b5_1 k3_b5_2 g3_b5_2 k3_b5_3 g3_b5_3 k3_g7_0 g3_g7_0 k3_g7_1 g3_g7_1 k3_g7_2 g3_g7_2 k3_g7_3 g3_g7_3 k3_g8_0 g3_g8_0 k3_g8_1 g3_g8_1 k3_g8_2 g3_g8_2 k3_g8_3 g3_g8_3 e3_0 B3 z3; intro f hf; have u45 : f 45 = (.bool true) := (by rw [← hf]; rfl); clear hf; rintro w' ⟨h0, h1, h2, h3, h4, h5, h6, h7, h8, h9, h10, h11, h12, h13, h14, h15, h16, h17, h18, h19, h20, h21, h22, h23, h24, h25, h26, h27, h28, h29, h30, h31, h32⟩; go_simp; try exact IntWalk.i64_in _ (by omega)
      refine obe_val (by rfl) ?_ ?_
      · clear k3_b4_0 g3_b4_0 k3_b4_1 g3_b4_1 k3_b4_2 g3_b4_2 k3_b4_3 g3_b4_3 k3_b5_0 g3_b5_0 k3_b5_1 g3_b5_1 k3_b5_2 g3_b5_2 k3_b5_3 g3_b5_3 k3_g7_0 g3_g7_0 k3_g7_1 g3_g7_1 k3_g7_2 g3_g7_2 k3_g7_3 g3_g7_3 k3_g8_0 g3_g8_0 k3_g8_1 g3_g8_1 k3_g8_2 g3_g8_2 k3_g8_3 g3_g8_3 e3_0 B3 z3; intro f hf; have u42 : f 42 = (.bool true) := (by rw [← hf]; rfl); have u48 : f 48 = (.bool true) := (by rw [← hf]; rfl); clear hf; rintro w' ⟨h0, h1, h2, h3, h4, h5, h6, h7, h8, h9, h10, h11, h12, h13, h14, h15, h16, h17, h18, h19, h20, h21, h22, h23, h24, h25, h26, h27, h28, h29, h30, h31, h32⟩; go_simp; try exact IntWalk.i64_in _ (by omega)
      refine obe_val (by rfl) ?_ ?_
      · clear k3_b4_0 g3_b4_0 k3_b4_1 g3_b4_1 k3_b4_2 g3_b4_2 k3_b4_3 g3_b4_3 k3_b5_0 g3_b5_0 k3_b5_1 g3_b5_1 k3_b5_2 g3_b5_2 k3_b5_3 g3_b5_3 k3_g7_0 g3_g7_0 k3_g7_1 g3_g7_1 k3_g7_2 g3_g7_2 k3_g7_3 g3_g7_3 k3_g8_0 g3_g8_0 k3_g8_1 g3_g8_1 k3_g8_2 g3_g8_2 k3_g8_3 g3_g8_3 e3_0 B3 z3; intro f hf; have u49 : f 49 = (.bool true) := (by rw [← hf]; rfl); clear hf; rintro w' ⟨h0, h1, h2, h3, h4, h5, h6, h7, h8, h9, h10, h11, h12, h13, h14, h15, h16, h17, h18, h19, h20, h21, h22, h23, h24, h25, h26, h27, h28, h29, h30, h31, h32⟩; go_simp; try exact IntWalk.i64_in _ (by omega)
      refine obe_call (by rfl) ?_ ?_ ?_
      · clear k3_b4_0 g3_b4_0 k3_b4_1 g3_b4_1 k3_b4_2 g3_b4_2 k3_b4_3 g3_b4_3 k3_b5_0 g3_b5_0 k3_b5_1 g3_b5_1 k3_b5_2 g3_b5_2 k3_b5_3 g3_b5_3 k3_g7_0 g3_g7_0 k3_g7_1 g3_g7_1 k3_g7_2 g3_g7_2 k3_g7_3 g3_g7_3 k3_g8_0 g3_g8_0 k3_g8_1 g3_g8_1 k3_g8_2 g3_g8_2 k3_g8_3 g3_g8_3 e3_0 B3 z3; intro f hf; clear hf; intro w' _; simp only [execOp, resolve, invoke, rhoF_tmp, rhoF_func, rhoF_const, List.map_toArray, List.map_cons, List.map_nil]; go_simp
      · clear k3_b4_0 g3_b4_0 k3_b4_1 g3_b4_1 k3_b4_2 g3_b4_2 k3_b4_3 g3_b4_3 k3_b5_0 g3_b5_0 k3_b5_1 g3_b5_1 k3_b5_2 g3_b5_2 k3_b5_3 g3_b5_3 k3_g7_0 g3_g7_0 k3_g7_1 g3_g7_1 k3_g7_2 g3_g7_2 k3_g7_3 g3_g7_3 k3_g8_0 g3_g8_0 k3_g8_1 g3_g8_1 k3_g8_2 g3_g8_2 k3_g8_3 g3_g8_3 e3_0 B3 z3; rintro w' ⟨h0, h1, h2, h3, h4, h5, h6, h7, h8, h9, h10, h11, h12, h13, h14, h15, h16, h17, h18, h19, h20, h21, h22, h23, h24, h25, h26, h27, h28, h29, h30, h31, h32⟩; exact bex_any _ (by assumption)
      refine obe_val (by rfl) ?_ ?_
      · clear k3_b4_0 g3_b4_0 k3_b4_1 g3_b4_1 k3_b4_2 g3_b4_2 k3_b4_3 g3_b4_3 k3_b5_0 g3_b5_0 k3_b5_1 g3_b5_1 k3_b5_2 g3_b5_2 k3_b5_3 g3_b5_3 k3_g7_0 g3_g7_0 k3_g7_1 g3_g7_1 k3_g7_2 g3_g7_2 k3_g7_3 g3_g7_3 k3_g8_0 g3_g8_0 k3_g8_1 g3_g8_1 k3_g8_2 g3_g8_2 k3_g8_3 g3_g8_3 e3_0 B3 z3; intro f hf; have u50 : f 50 = (.bool true) := (by rw [← hf]; rfl); have u51 : f 51 = (.bool true) := (by rw [← hf]; rfl); clear hf; rintro w' ⟨h0, h1, h2, h3, h4, h5, h6, h7, h8, h9, h10, h11, h12, h13, h14, h15, h16, h17, h18, h19, h20, h21, h22, h23, h24, h25, h26, h27, h28, h29, h30, h31, h32⟩; go_simp; try exact IntWalk.i64_in _ (by omega)
      refine obe_val (by rfl) ?_ ?_
      · clear k3_b4_0 g3_b4_0 k3_b4_1 g3_b4_1 k3_b4_2 g3_b4_2 k3_b4_3 g3_b4_3 k3_b5_0 g3_b5_0 k3_b5_1 g3_b5_1 k3_b5_2 g3_b5_2 k3_b5_3 g3_b5_3 k3_g7_0 g3_g7_0 k3_g7_1 g3_g7_1 k3_g7_2 g3_g7_2 k3_g7_3 g3_g7_3 k3_g8_0 g3_g8_0 k3_g8_1 g3_g8_1 k3_g8_2 g3_g8_2 k3_g8_3 g3_g8_3 e3_0 B3 z3; intro f hf; have u52 : f 52 = (.bool true) := (by rw [← hf]; rfl); clear hf; rintro w' ⟨h0, h1, h2, h3, h4, h5, h6, h7, h8, h9, h10, h11, h12, h13, h14, h15, h16, h17, h18, h19, h20, h21, h22, h23, h24, h25, h26, h27, h28, h29, h30, h31, h32⟩; go_simp; try exact IntWalk.i64_in _ (by omega)
      refine obe_nil ?_
      rintro w4 ⟨h0, h1, h2, h3, h4, h5, h6, h7, h8, h9, h10, h11, h12, h13, h14, h15, h16, h17, h18, h19, h20, h21, h22, h23, h24, h25, h26, h27, h28, h29, h30, h31, h32⟩ hb4 hF
      (try simp only [List.nil_append, List.append_nil, List.cons_append] at hF)
      simp only [puts, putD, Act.put, List.setIfInBounds_toArray, List.set_cons_zero, List.set_cons_succ]
      clear hF
      have k4_b4_0 := bcs hb4 k3_b4_0
      have g4_b4_0 := bfs hb4 k3_b4_0 g3_b4_0
      have k4_b4_1 := bcs hb4 k3_b4_1
      have g4_b4_1 := bfs hb4 k3_b4_1 g3_b4_1
      have k4_b4_2 := bcs hb4 k3_b4_2
      have g4_b4_2 := bfs hb4 k3_b4_2 g3_b4_2
      have k4_b4_3 := bcs hb4 k3_b4_3
      have g4_b4_3 := bfs hb4 k3_b4_3 g3_b4_3
      have k4_b5_0 := bcs hb4 k3_b5_0
      have g4_b5_0 := bfs hb4 k3_b5_0 g3_b5_0
      have k4_b5_1 := bcs hb4 k3_b5_1
      have g4_b5_1 := bfs hb4 k3_b5_1 g3_b5_1
      have k4_b5_2 := bcs hb4 k3_b5_2
      have g4_b5_2 := bfs hb4 k3_b5_2 g3_b5_2
      have k4_b5_3 := bcs hb4 k3_b5_3
      have g4_b5_3 := bfs hb4 k3_b5_3 g3_b5_3
      have k4_g7_0 := bcs hb4 k3_g7_0
      have g4_g7_0 := bfs hb4 k3_g7_0 g3_g7_0
      have k4_g7_1 := bcs hb4 k3_g7_1
      have g4_g7_1 := bfs hb4 k3_g7_1 g3_g7_1
      have k4_g7_2 := bcs hb4 k3_g7_2
      have g4_g7_2 := bfs hb4 k3_g7_2 g3_g7_2
      have k4_g7_3 := bcs hb4 k3_g7_3
      have g4_g7_3 := bfs hb4 k3_g7_3 g3_g7_3
      have k4_g8_0 := bcs hb4 k3_g8_0
      have g4_g8_0 := bfs hb4 k3_g8_0 g3_g8_0
      have k4_g8_1 := bcs hb4 k3_g8_1
      have g4_g8_1 := bfs hb4 k3_g8_1 g3_g8_1
      have k4_g8_2 := bcs hb4 k3_g8_2
      have g4_g8_2 := bfs hb4 k3_g8_2 g3_g8_2
      have k4_g8_3 := bcs hb4 k3_g8_3
      have g4_g8_3 := bfs hb4 k3_g8_3 g3_g8_3
      clear h0 h1 h2 h3 h4 h5 h6 h7 h8 h9 h10 h11 h12 h13 h14 h15 h16 h17 h18 h19 h20 h21 h22 h23 h24 h25 h26 h27 h28 h29 h30 h31 h32
      have B4 := bel_step B3 hb4
      have z4 := Nat.le_trans z3 hb4.size
      have e4_0 := Nm.below hN B4
      clear hb4
      (try clear B3)
      (try clear z3)
      (try clear k3_b4_0)
      (try clear g3_b4_0)
      (try clear k3_b4_1)
      (try clear g3_b4_1)
      (try clear k3_b4_2)
      (try clear g3_b4_2)
      (try clear k3_b4_3)
      (try clear g3_b4_3)
      (try clear k3_b5_0)
      (try clear g3_b5_0)
      (try clear k3_b5_1)
      (try clear g3_b5_1)
      (try clear k3_b5_2)
      (try clear g3_b5_2)
      (try clear k3_b5_3)
      (try clear g3_b5_3)
      (try clear k3_g7_0)
      (try clear g3_g7_0)
      (try clear k3_g7_1)
      (try clear g3_g7_1)
      (try clear k3_g7_2)
      (try clear g3_g7_2)
      (try clear k3_g7_3)
      (try clear g3_g7_3)
      (try clear k3_g8_0)
      (try clear g3_g8_0)
      (try clear k3_g8_1)
      (try clear g3_g8_1)
      (try clear k3_g8_2)
      (try clear g3_g8_2)
      (try clear k3_g8_3)
      (try clear g3_g8_3)
      (try clear e3_0)
      (try clear q3_b4)
      (try clear x3_b4)
      (try clear y3_b4)
      (try clear q3_b5)
      (try clear x3_b5)
      (try clear y3_b5)
      (try clear q3_g7)
      (try clear x3_g7)
      (try clear y3_g7)
      (try clear q3_g8)
      (try clear x3_g8)
      (try clear y3_g8)
      have q4_b4 : w.heap.size < w4.heap.size := qlt k4_b4_0
      have x4_b4 : ¬ w.heap.size = w4.heap.size := qne k4_b4_0
      have y4_b4 : ¬ w4.heap.size = w.heap.size := fun h => qne k4_b4_0 h.symm
      have q4_b5 : w.heap.size + 1 < w4.heap.size := qlt k4_b5_0
      have x4_b5 : ¬ w.heap.size + 1 = w4.heap.size := qne k4_b5_0
      have y4_b5 : ¬ w4.heap.size = w.heap.size + 1 := fun h => qne k4_b5_0 h.symm
      have q4_g7 : g7 < w4.heap.size := qlt k4_g7_0
      have x4_g7 : ¬ g7 = w4.heap.size := qne k4_g7_0
      have y4_g7 : ¬ w4.heap.size = g7 := fun h => qne k4_g7_0 h.symm
      have q4_g8 : g8 < w4.heap.size := qlt k4_g8_0
      have x4_g8 : ¬ g8 = w4.heap.size := qne k4_g8_0
      have y4_g8 : ¬ w4.heap.size = g8 := fun h => qne k4_g8_0 h.symm
      unfold wpList
      go_wp2
      go_ret
      refine ⟨rfl, ?_⟩
      repeat (first | with_reducible exact Below.refl _ _ | with_reducible exact B4 | with_reducible apply below_drewN | with_reducible apply Below.drew | (with_reducible refine Below.alloc ?_ (by first | (simp; done) | (simp; omega) | omega) _) | (with_reducible refine Below.setCell ?_ (by first | (simp; done) | (simp; omega) | omega) _))
    · rw [termF_zero m cg a ct d (by omega)] at ctm
      have h9b : decide (m ≤ 9) = false := by simpa using h9
      clear hm
      go_enter Tryd.func13, Tryd.ntmps13
      go_wp2_with (first | (go_at_call 17; (with_reducible refine (cv _).mono ?_); rintro e w9 ⟨rfl, rfl⟩))
      refine wp_region_env (fun w' => w'.cell? ⟨w.heap.size, 0, none⟩ = some (.int .u8 r) ∧ w'.frozen? ⟨w.heap.size, 0, none⟩ = false ∧ w'.cell? ⟨w.heap.size, 1, none⟩ = some (.int .u8 g) ∧ w'.frozen? ⟨w.heap.size, 1, none⟩ = false ∧ w'.cell? ⟨w.heap.size, 2, none⟩ = some (.int .u8 b) ∧ w'.frozen? ⟨w.heap.size, 2, none⟩ = false ∧ w'.cell? ⟨w.heap.size, 3, none⟩ = some (.int .u8 a) ∧ w'.frozen? ⟨w.heap.size, 3, none⟩ = false ∧ w'.cell? ⟨w.heap.size + 1, 0, none⟩ = some (.int .u8 s) ∧ w'.frozen? ⟨w.heap.size + 1, 0, none⟩ = false ∧ w'.cell? ⟨w.heap.size + 1, 1, none⟩ = some (.int .u8 t) ∧ w'.frozen? ⟨w.heap.size + 1, 1, none⟩ = false ∧ w'.cell? ⟨w.heap.size + 1, 2, none⟩ = some (.int .u8 u) ∧ w'.frozen? ⟨w.heap.size + 1, 2, none⟩ = false ∧ w'.cell? ⟨w.heap.size + 1, 3, none⟩ = some (.int .u8 d) ∧ w'.frozen? ⟨w.heap.size + 1, 3, none⟩ = false ∧ Nm w') (fun W => W.cell? ⟨w.heap.size, 0, none⟩ = some (.int .u8 r) ∧ W.frozen? ⟨w.heap.size, 0, none⟩ = false ∧ W.cell? ⟨w.heap.size, 1, none⟩ = some (.int .u8 g) ∧ W.frozen? ⟨w.heap.size, 1, none⟩ = false ∧ W.cell? ⟨w.heap.size, 2, none⟩ = some (.int .u8 b) ∧ W.frozen? ⟨w.heap.size, 2, none⟩ = false ∧ W.cell? ⟨w.heap.size, 3, none⟩ = some (.int .u8 a) ∧ W.frozen? ⟨w.heap.size, 3, none⟩ = false ∧ W.cell? ⟨w.heap.size + 1, 0, none⟩ = some (.int .u8 s) ∧ W.frozen? ⟨w.heap.size + 1, 0, none⟩ = false ∧ W.cell? ⟨w.heap.size + 1, 1, none⟩ = some (.int .u8 t) ∧ W.frozen? ⟨w.heap.size + 1, 1, none⟩ = false ∧ W.cell? ⟨w.heap.size + 1, 2, none⟩ = some (.int .u8 u) ∧ W.frozen? ⟨w.heap.size + 1, 2, none⟩ = false ∧ W.cell? ⟨w.heap.size + 1, 3, none⟩ = some (.int .u8 d) ∧ W.frozen? ⟨w.heap.size + 1, 3, none⟩ = false ∧ Nm W ∧ Below w.heap.size w W ∧ w.heap.size + 1 + 1 ≤ W.heap.size) 6 53 [.val (.agg #[.int .u8 r, .int .u8 g, .int .u8 b, .int .u8 a]), .call 25 #[.agg #[.int .u8 r, .int .u8 g, .int .u8 b, .int .u8 a]] (.agg #[.int .u8 cr, .int .u8 cg, .int .u8 cb, .int .u8 a]), .val (.agg #[.int .u8 s, .int .u8 t, .int .u8 u, .int .u8 d]), .call 25 #[.agg #[.int .u8 s, .int .u8 t, .int .u8 u, .int .u8 d]] (.agg #[.int .u8 cs, .int .u8 ct, .int .u8 cu, .int .u8 d]), .fresh (.cells #[.int .u8 0, .int .u8 0, .int .u8 0, .int .u8 0] 31), .fresh (.cells #[.int .u8 0, .int .u8 0, .int .u8 0, .int .u8 0] 31)] (by kernel_rfl) (by kernel_rfl) rfl (by kernel_rfl) (by rintro w1 w2 ⟨h0, h1, h2, h3, h4, h5, h6, h7, h8, h9, h10, h11, h12, h13, h14, h15, h16⟩ hb; exact ⟨bcs hb h0, bfs hb h0 h1, bcs hb h2, bfs hb h2 h3, bcs hb h4, bfs hb h4 h5, bcs hb h6, bfs hb h6 h7, bcs hb h8, bfs hb h8 h9, bcs hb h10, bfs hb h10 h11, bcs hb h12, bfs hb h12 h13, bcs hb h14, bfs hb h14 h15, Nm.below h16 hb⟩) ⟨by first | with_reducible assumption | go_simp, by first | with_reducible assumption | go_simp, by first | with_reducible assumption | go_simp, by first | with_reducible assumption | go_simp, by first | with_reducible assumption | go_simp, by first | with_reducible assumption | go_simp, by first | with_reducible assumption | go_simp, by first | with_reducible assumption | go_simp, by first | with_reducible assumption | go_simp, by first | with_reducible assumption | go_simp, by first | with_reducible assumption | go_simp, by first | with_reducible assumption | go_simp, by first | with_reducible assumption | go_simp, by first | with_reducible assumption | go_simp, by first | with_reducible assumption | go_simp, by first | with_reducible assumption | go_simp, Nm.below hN (by repeat (first | with_reducible exact Below.refl _ _ | fail | with_reducible apply below_drewN | with_reducible apply Below.drew | (with_reducible refine Below.alloc ?_ (by first | (simp; done) | (simp; omega) | omega) _) | (with_reducible refine Below.setCell ?_ (by first | (simp; done) | (simp; omega) | omega) _))), by repeat (first | with_reducible exact Below.refl _ _ | fail | with_reducible apply below_drewN | with_reducible apply Below.drew | (with_reducible refine Below.alloc ?_ (by first | (simp; done) | (simp; omega) | omega) _) | (with_reducible refine Below.setCell ?_ (by first | (simp; done) | (simp; omega) | omega) _)), by first | with_reducible assumption | (simp; done) | (simp; omega)⟩ ?_ ?_
      · rintro W ⟨k1_b4_0, g1_b4_0, k1_b4_1, g1_b4_1, k1_b4_2, g1_b4_2, k1_b4_3, g1_b4_3, k1_b5_0, g1_b5_0, k1_b5_1, g1_b5_1, k1_b5_2, g1_b5_2, k1_b5_3, g1_b5_3, e1_0, B1, z1⟩; exact ⟨k1_b4_0, g1_b4_0, k1_b4_1, g1_b4_1, k1_b4_2, g1_b4_2, k1_b4_3, g1_b4_3, k1_b5_0, g1_b5_0, k1_b5_1, g1_b5_1, k1_b5_2, g1_b5_2, k1_b5_3, g1_b5_3, e1_0⟩
      rintro w1 ⟨k1_b4_0, g1_b4_0, k1_b4_1, g1_b4_1, k1_b4_2, g1_b4_2, k1_b4_3, g1_b4_3, k1_b5_0, g1_b5_0, k1_b5_1, g1_b5_1, k1_b5_2, g1_b5_2, k1_b5_3, g1_b5_3, e1_0, B1, z1⟩ gg
      simp only [List.take_succ_cons, List.take_zero, List.drop_succ_cons, List.drop_zero, List.cons_append, List.nil_append, List.append_nil]
      refine obe_val (by rfl) ?_ ?_
      · clear k1_b4_0 g1_b4_0 k1_b4_1 g1_b4_1 k1_b4_2 g1_b4_2 k1_b4_3 g1_b4_3 k1_b5_0 g1_b5_0 k1_b5_1 g1_b5_1 k1_b5_2 g1_b5_2 k1_b5_3 g1_b5_3 e1_0 B1 z1; intro f hf; have u4 : f 4 = (.pointer (some ⟨w.heap.size, 0, none⟩)) := (by rw [← hf]; rfl); clear hf; rintro w' ⟨h0, h1, h2, h3, h4, h5, h6, h7, h8, h9, h10, h11, h12, h13, h14, h15, h16⟩; go_simp; try exact IntWalk.i64_in _ (by omega)
      refine obe_call (by rfl) ?_ ?_ ?_
      · clear k1_b4_0 g1_b4_0 k1_b4_1 g1_b4_1 k1_b4_2 g1_b4_2 k1_b4_3 g1_b4_3 k1_b5_0 g1_b5_0 k1_b5_1 g1_b5_1 k1_b5_2 g1_b5_2 k1_b5_3 g1_b5_3 e1_0 B1 z1; intro f hf; have u14 : f 14 = (.agg #[.int .u8 r, .int .u8 g, .int .u8 b, .int .u8 a]) := (by rw [← hf]; rfl); clear hf; intro w' _; simp only [execOp, resolve, invoke, rhoF_tmp, rhoF_func, rhoF_const, u14, List.map_toArray, List.map_cons, List.map_nil]; go_simp
      · clear k1_b4_0 g1_b4_0 k1_b4_1 g1_b4_1 k1_b4_2 g1_b4_2 k1_b4_3 g1_b4_3 k1_b5_0 g1_b5_0 k1_b5_1 g1_b5_1 k1_b5_2 g1_b5_2 k1_b5_3 g1_b5_3 e1_0 B1 z1; rintro w' ⟨h0, h1, h2, h3, h4, h5, h6, h7, h8, h9, h10, h11, h12, h13, h14, h15, h16⟩; exact rpclamp_any r g b a cr cg cb hr hg hb _
      refine obe_val (by rfl) ?_ ?_
      · clear k1_b4_0 g1_b4_0 k1_b4_1 g1_b4_1 k1_b4_2 g1_b4_2 k1_b4_3 g1_b4_3 k1_b5_0 g1_b5_0 k1_b5_1 g1_b5_1 k1_b5_2 g1_b5_2 k1_b5_3 g1_b5_3 e1_0 B1 z1; intro f hf; have u5 : f 5 = (.pointer (some ⟨w.heap.size + 1, 0, none⟩)) := (by rw [← hf]; rfl); clear hf; rintro w' ⟨h0, h1, h2, h3, h4, h5, h6, h7, h8, h9, h10, h11, h12, h13, h14, h15, h16⟩; go_simp; try exact IntWalk.i64_in _ (by omega)
      refine obe_call (by rfl) ?_ ?_ ?_
      · clear k1_b4_0 g1_b4_0 k1_b4_1 g1_b4_1 k1_b4_2 g1_b4_2 k1_b4_3 g1_b4_3 k1_b5_0 g1_b5_0 k1_b5_1 g1_b5_1 k1_b5_2 g1_b5_2 k1_b5_3 g1_b5_3 e1_0 B1 z1; intro f hf; have u16 : f 16 = (.agg #[.int .u8 s, .int .u8 t, .int .u8 u, .int .u8 d]) := (by rw [← hf]; rfl); clear hf; intro w' _; simp only [execOp, resolve, invoke, rhoF_tmp, rhoF_func, rhoF_const, u16, List.map_toArray, List.map_cons, List.map_nil]; go_simp
      · clear k1_b4_0 g1_b4_0 k1_b4_1 g1_b4_1 k1_b4_2 g1_b4_2 k1_b4_3 g1_b4_3 k1_b5_0 g1_b5_0 k1_b5_1 g1_b5_1 k1_b5_2 g1_b5_2 k1_b5_3 g1_b5_3 e1_0 B1 z1; rintro w' ⟨h0, h1, h2, h3, h4, h5, h6, h7, h8, h9, h10, h11, h12, h13, h14, h15, h16⟩; exact rpclamp_any s t u d cs ct cu hs ht hu _
      refine obe_fresh (by rfl) ?_ ?_
      · clear k1_b4_0 g1_b4_0 k1_b4_1 g1_b4_1 k1_b4_2 g1_b4_2 k1_b4_3 g1_b4_3 k1_b5_0 g1_b5_0 k1_b5_1 g1_b5_1 k1_b5_2 g1_b5_2 k1_b5_3 g1_b5_3 e1_0 B1 z1; intro f hf; clear hf; rintro w' ⟨h0, h1, h2, h3, h4, h5, h6, h7, h8, h9, h10, h11, h12, h13, h14, h15, h16⟩; go_simp
      refine obe_fresh (by rfl) ?_ ?_
      · clear k1_b4_0 g1_b4_0 k1_b4_1 g1_b4_1 k1_b4_2 g1_b4_2 k1_b4_3 g1_b4_3 k1_b5_0 g1_b5_0 k1_b5_1 g1_b5_1 k1_b5_2 g1_b5_2 k1_b5_3 g1_b5_3 e1_0 B1 z1; intro f hf; clear hf; rintro w' ⟨h0, h1, h2, h3, h4, h5, h6, h7, h8, h9, h10, h11, h12, h13, h14, h15, h16⟩; go_simp
      refine obe_nil ?_
      rintro w2 ⟨h0, h1, h2, h3, h4, h5, h6, h7, h8, h9, h10, h11, h12, h13, h14, h15, h16⟩ hb2 hF
      (try simp only [List.nil_append, List.append_nil, List.cons_append] at hF)
      simp only [puts, putD, Act.put, List.setIfInBounds_toArray, List.set_cons_zero, List.set_cons_succ]
      have lg7 : w1.heap.size ≤ gg 4 := hF.1.1
      have ug7 : gg 4 < w2.heap.size := hF.1.2.1
      have pg7 : w2.heap[gg 4]? = some (.cells #[.int .u8 0, .int .u8 0, .int .u8 0, .int .u8 0] 31) := hF.1.2.2
      have ng7_g8 : ¬ gg 4 = gg 5 := hF.2.1 (5, .cells #[.int .u8 0, .int .u8 0, .int .u8 0, .int .u8 0] 31) (by simp)
      have lg8 : w1.heap.size ≤ gg 5 := hF.2.2.1.1
      have ug8 : gg 5 < w2.heap.size := hF.2.2.1.2.1
      have pg8 : w2.heap[gg 5]? = some (.cells #[.int .u8 0, .int .u8 0, .int .u8 0, .int .u8 0] 31) := hF.2.2.1.2.2
      clear hF
      obtain ⟨g7, eg7⟩ : ∃ x, gg 4 = x := ⟨_, rfl⟩
      rw [eg7] at lg7 ug7 pg7 ng7_g8 ⊢
      clear eg7
      obtain ⟨g8, eg8⟩ : ∃ x, gg 5 = x := ⟨_, rfl⟩
      rw [eg8] at lg8 ug8 pg8 ng7_g8 ⊢
      clear eg8
      clear gg
      have k2_b4_0 := bcs hb2 k1_b4_0
      have g2_b4_0 := bfs hb2 k1_b4_0 g1_b4_0
      have k2_b4_1 := bcs hb2 k1_b4_1
      have g2_b4_1 := bfs hb2 k1_b4_1 g1_b4_1
      have k2_b4_2 := bcs hb2 k1_b4_2
      have g2_b4_2 := bfs hb2 k1_b4_2 g1_b4_2
      have k2_b4_3 := bcs hb2 k1_b4_3
      have g2_b4_3 := bfs hb2 k1_b4_3 g1_b4_3
      have k2_b5_0 := bcs hb2 k1_b5_0
      have g2_b5_0 := bfs hb2 k1_b5_0 g1_b5_0
      have k2_b5_1 := bcs hb2 k1_b5_1
      have g2_b5_1 := bfs hb2 k1_b5_1 g1_b5_1
      have k2_b5_2 := bcs hb2 k1_b5_2
      have g2_b5_2 := bfs hb2 k1_b5_2 g1_b5_2
      have k2_b5_3 := bcs hb2 k1_b5_3
      have g2_b5_3 := bfs hb2 k1_b5_3 g1_b5_3
      clear h0 h1 h2 h3 h4 h5 h6 h7 h8 h9 h10 h11 h12 h13 h14 h15 h16
      have B2 := bel_step B1 hb2
      have z2 := Nat.le_trans z1 hb2.size
      have e2_0 := Nm.below hN B2
      have mg7 : w.heap.size ≤ g7 := by omega
      have ng7_b4 : ¬ g7 = w.heap.size := by omega
      have nb4_g7 : ¬ w.heap.size = g7 := by omega
      have ng7_b5 : ¬ g7 = w.heap.size + 1 := by omega
      have nb5_g7 : ¬ w.heap.size + 1 = g7 := by omega
      have k2_g7_0 : w2.cell? ⟨g7, 0, none⟩ = some (.int .u8 0) := cob pg7 0 rfl
      have g2_g7_0 : w2.frozen? ⟨g7, 0, none⟩ = false := fob pg7 0
      have k2_g7_1 : w2.cell? ⟨g7, 1, none⟩ = some (.int .u8 0) := cob pg7 1 rfl
      have g2_g7_1 : w2.frozen? ⟨g7, 1, none⟩ = false := fob pg7 1
      have k2_g7_2 : w2.cell? ⟨g7, 2, none⟩ = some (.int .u8 0) := cob pg7 2 rfl
      have g2_g7_2 : w2.frozen? ⟨g7, 2, none⟩ = false := fob pg7 2
      have k2_g7_3 : w2.cell? ⟨g7, 3, none⟩ = some (.int .u8 0) := cob pg7 3 rfl
      have g2_g7_3 : w2.frozen? ⟨g7, 3, none⟩ = false := fob pg7 3
      have mg8 : w.heap.size ≤ g8 := by omega
      have ng8_b4 : ¬ g8 = w.heap.size := by omega
      have nb4_g8 : ¬ w.heap.size = g8 := by omega
      have ng8_b5 : ¬ g8 = w.heap.size + 1 := by omega
      have nb5_g8 : ¬ w.heap.size + 1 = g8 := by omega
      have k2_g8_0 : w2.cell? ⟨g8, 0, none⟩ = some (.int .u8 0) := cob pg8 0 rfl
      have g2_g8_0 : w2.frozen? ⟨g8, 0, none⟩ = false := fob pg8 0
      have k2_g8_1 : w2.cell? ⟨g8, 1, none⟩ = some (.int .u8 0) := cob pg8 1 rfl
      have g2_g8_1 : w2.frozen? ⟨g8, 1, none⟩ = false := fob pg8 1
      have k2_g8_2 : w2.cell? ⟨g8, 2, none⟩ = some (.int .u8 0) := cob pg8 2 rfl
      have g2_g8_2 : w2.frozen? ⟨g8, 2, none⟩ = false := fob pg8 2
      have k2_g8_3 : w2.cell? ⟨g8, 3, none⟩ = some (.int .u8 0) := cob pg8 3 rfl
      have g2_g8_3 : w2.frozen? ⟨g8, 3, none⟩ = false := fob pg8 3
      have ng8_g7 : ¬ g8 = g7 := fun h => ng7_g8 h.symm
      clear lg7 ug7 pg7
      clear lg8 ug8 pg8
      clear hb2
      (try clear B1)
      (try clear z1)
      (try clear k1_b4_0)
      (try clear g1_b4_0)
      (try clear k1_b4_1)
      (try clear g1_b4_1)
      (try clear k1_b4_2)
      (try clear g1_b4_2)
      (try clear k1_b4_3)
      (try clear g1_b4_3)
      (try clear k1_b5_0)
      (try clear g1_b5_0)
      (try clear k1_b5_1)
      (try clear g1_b5_1)
      (try clear k1_b5_2)
      (try clear g1_b5_2)
      (try clear k1_b5_3)
      (try clear g1_b5_3)
      (try clear e1_0)
      (try clear q1_b4)
      (try clear x1_b4)
      (try clear y1_b4)
      (try clear q1_b5)
      (try clear x1_b5)
      (try clear y1_b5)
      have q2_b4 : w.heap.size < w2.heap.size := qlt k2_b4_0
      have x2_b4 : ¬ w.heap.size = w2.heap.size := qne k2_b4_0
      have y2_b4 : ¬ w2.heap.size = w.heap.size := fun h => qne k2_b4_0 h.symm
      have q2_b5 : w.heap.size + 1 < w2.heap.size := qlt k2_b5_0
      have x2_b5 : ¬ w.heap.size + 1 = w2.heap.size := qne k2_b5_0
      have y2_b5 : ¬ w2.heap.size = w.heap.size + 1 := fun h => qne k2_b5_0 h.symm
      have q2_g7 : g7 < w2.heap.size := qlt k2_g7_0
      have x2_g7 : ¬ g7 = w2.heap.size := qne k2_g7_0
      have y2_g7 : ¬ w2.heap.size = g7 := fun h => qne k2_g7_0 h.symm
      have q2_g8 : g8 < w2.heap.size := qlt k2_g8_0
      have x2_g8 : ¬ g8 = w2.heap.size := qne k2_g8_0
      have y2_g8 : ¬ w2.heap.size = g8 := fun h => qne k2_g8_0 h.symm
      go_wp2_with (first | (go_at_call 21; (with_reducible refine (ctm _).mono ?_); rintro e w9 ⟨rfl, rfl⟩))
      refine wp_region_env (fun w' => w'.cell? ⟨w.heap.size, 0, none⟩ = some (.int .u8 r) ∧ w'.frozen? ⟨w.heap.size, 0, none⟩ = false ∧ w'.cell? ⟨w.heap.size, 1, none⟩ = some (.int .u8 g) ∧ w'.frozen? ⟨w.heap.size, 1, none⟩ = false ∧ w'.cell? ⟨w.heap.size, 2, none⟩ = some (.int .u8 b) ∧ w'.frozen? ⟨w.heap.size, 2, none⟩ = false ∧ w'.cell? ⟨w.heap.size, 3, none⟩ = some (.int .u8 a) ∧ w'.frozen? ⟨w.heap.size, 3, none⟩ = false ∧ w'.cell? ⟨w.heap.size + 1, 0, none⟩ = some (.int .u8 s) ∧ w'.frozen? ⟨w.heap.size + 1, 0, none⟩ = false ∧ w'.cell? ⟨w.heap.size + 1, 1, none⟩ = some (.int .u8 t) ∧ w'.frozen? ⟨w.heap.size + 1, 1, none⟩ = false ∧ w'.cell? ⟨w.heap.size + 1, 2, none⟩ = some (.int .u8 u) ∧ w'.frozen? ⟨w.heap.size + 1, 2, none⟩ = false ∧ w'.cell? ⟨w.heap.size + 1, 3, none⟩ = some (.int .u8 d) ∧ w'.frozen? ⟨w.heap.size + 1, 3, none⟩ = false ∧ w'.cell? ⟨g7, 0, none⟩ = some (.int .u8 cr) ∧ w'.frozen? ⟨g7, 0, none⟩ = false ∧ w'.cell? ⟨g7, 1, none⟩ = some (.int .u8 cg) ∧ w'.frozen? ⟨g7, 1, none⟩ = false ∧ w'.cell? ⟨g7, 2, none⟩ = some (.int .u8 cb) ∧ w'.frozen? ⟨g7, 2, none⟩ = false ∧ w'.cell? ⟨g7, 3, none⟩ = some (.int .u8 a) ∧ w'.frozen? ⟨g7, 3, none⟩ = false ∧ w'.cell? ⟨g8, 0, none⟩ = some (.int .u8 cs) ∧ w'.frozen? ⟨g8, 0, none⟩ = false ∧ w'.cell? ⟨g8, 1, none⟩ = some (.int .u8 ct) ∧ w'.frozen? ⟨g8, 1, none⟩ = false ∧ w'.cell? ⟨g8, 2, none⟩ = some (.int .u8 cu) ∧ w'.frozen? ⟨g8, 2, none⟩ = false ∧ w'.cell? ⟨g8, 3, none⟩ = some (.int .u8 d) ∧ w'.frozen? ⟨g8, 3, none⟩ = false ∧ Nm w') (fun W => W.cell? ⟨w.heap.size, 0, none⟩ = some (.int .u8 r) ∧ W.frozen? ⟨w.heap.size, 0, none⟩ = false ∧ W.cell? ⟨w.heap.size, 1, none⟩ = some (.int .u8 g) ∧ W.frozen? ⟨w.heap.size, 1, none⟩ = false ∧ W.cell? ⟨w.heap.size, 2, none⟩ = some (.int .u8 b) ∧ W.frozen? ⟨w.heap.size, 2, none⟩ = false ∧ W.cell? ⟨w.heap.size, 3, none⟩ = some (.int .u8 a) ∧ W.frozen? ⟨w.heap.size, 3, none⟩ = false ∧ W.cell? ⟨w.heap.size + 1, 0, none⟩ = some (.int .u8 s) ∧ W.frozen? ⟨w.heap.size + 1, 0, none⟩ = false ∧ W.cell? ⟨w.heap.size + 1, 1, none⟩ = some (.int .u8 t) ∧ W.frozen? ⟨w.heap.size + 1, 1, none⟩ = false ∧ W.cell? ⟨w.heap.size + 1, 2, none⟩ = some (.int .u8 u) ∧ W.frozen? ⟨w.heap.size + 1, 2, none⟩ = false ∧ W.cell? ⟨w.heap.size + 1, 3, none⟩ = some (.int .u8 d) ∧ W.frozen? ⟨w.heap.size + 1, 3, none⟩ = false ∧ W.cell? ⟨g7, 0, none⟩ = some (.int .u8 cr) ∧ W.frozen? ⟨g7, 0, none⟩ = false ∧ W.cell? ⟨g7, 1, none⟩ = some (.int .u8 cg) ∧ W.frozen? ⟨g7, 1, none⟩ = false ∧ W.cell? ⟨g7, 2, none⟩ = some (.int .u8 cb) ∧ W.frozen? ⟨g7, 2, none⟩ = false ∧ W.cell? ⟨g7, 3, none⟩ = some (.int .u8 a) ∧ W.frozen? ⟨g7, 3, none⟩ = false ∧ W.cell? ⟨g8, 0, none⟩ = some (.int .u8 cs) ∧ W.frozen? ⟨g8, 0, none⟩ = false ∧ W.cell? ⟨g8, 1, none⟩ = some (.int .u8 ct) ∧ W.frozen? ⟨g8, 1, none⟩ = false ∧ W.cell? ⟨g8, 2, none⟩ = some (.int .u8 cu) ∧ W.frozen? ⟨g8, 2, none⟩ = false ∧ W.cell? ⟨g8, 3, none⟩ = some (.int .u8 d) ∧ W.frozen? ⟨g8, 3, none⟩ = false ∧ Nm W ∧ Below w.heap.size w W ∧ w.heap.size + 1 + 1 ≤ W.heap.size) 22 53 [.val (.int .i64 m), .val (.agg #[.int .u8 r, .int .u8 g, .int .u8 b, .int .u8 a]), .val (.agg #[.int .u8 s, .int .u8 t, .int .u8 u, .int .u8 d]), .call 23 #[.int .i64 m, .agg #[.int .u8 r, .int .u8 g, .int .u8 b, .int .u8 a], .agg #[.int .u8 s, .int .u8 t, .int .u8 u, .int .u8 d]] (.agg #[.int .u8 q0, .int .u8 q1, .int .u8 q2, .int .u8 al]), .val (.int .u8 al), .val (.agg #[.int .u8 r, .int .u8 g, .int .u8 b, .int .u8 a]), .val (.agg #[.int .u8 s, .int .u8 t, .int .u8 u, .int .u8 d]), .call 23 #[.int .i64 1, .agg #[.int .u8 r, .int .u8 g, .int .u8 b, .int .u8 a], .agg #[.int .u8 s, .int .u8 t, .int .u8 u, .int .u8 d]] (.agg #[.int .u8 p0, .int .u8 p1, .int .u8 p2, .int .u8 al]), .val (.int .u8 al), .val (.bool true), .val (.bool true), .val (.int .i64 m), .val (.bool false), .val (.bool false), .val (.int .i64 0), .val (.bool true), .val (.bool true), .val (.bool true), .val (.bool true), .call 20 #[] (.bool true), .val (.bool true), .val (.bool true)] (by kernel_rfl) (by kernel_rfl) rfl (by kernel_rfl) (by rintro w1 w2 ⟨h0, h1, h2, h3, h4, h5, h6, h7, h8, h9, h10, h11, h12, h13, h14, h15, h16, h17, h18, h19, h20, h21, h22, h23, h24, h25, h26, h27, h28, h29, h30, h31, h32⟩ hb; exact ⟨bcs hb h0, bfs hb h0 h1, bcs hb h2, bfs hb h2 h3, bcs hb h4, bfs hb h4 h5, bcs hb h6, bfs hb h6 h7, bcs hb h8, bfs hb h8 h9, bcs hb h10, bfs hb h10 h11, bcs hb h12, bfs hb h12 h13, bcs hb h14, bfs hb h14 h15, bcs hb h16, bfs hb h16 h17, bcs hb h18, bfs hb h18 h19, bcs hb h20, bfs hb h20 h21, bcs hb h22, bfs hb h22 h23, bcs hb h24, bfs hb h24 h25, bcs hb h26, bfs hb h26 h27, bcs hb h28, bfs hb h28 h29, bcs hb h30, bfs hb h30 h31, Nm.below h32 hb⟩) ⟨by first | with_reducible assumption | go_simp, by first | with_reducible assumption | go_simp, by first | with_reducible assumption | go_simp, by first | with_reducible assumption | go_simp, by first | with_reducible assumption | go_simp, by first | with_reducible assumption | go_simp, by first | with_reducible assumption | go_simp, by first | with_reducible assumption | go_simp, by first | with_reducible assumption | go_simp, by first | with_reducible assumption | go_simp, by first | with_reducible assumption | go_simp, by first | with_reducible assumption | go_simp, by first | with_reducible assumption | go_simp, by first | with_reducible assumption | go_simp, by first | with_reducible assumption | go_simp, by first | with_reducible assumption | go_simp, by first | with_reducible assumption | go_simp, by first | with_reducible assumption | go_simp, by first | with_reducible assumption | go_simp, by first | with_reducible assumption | go_simp, by first | with_reducible assumption | go_simp, by first | with_reducible assumption | go_simp, by first | with_reducible assumption | go_simp, by first | with_reducible assumption | go_simp, by first | with_reducible assumption | go_simp, by first | with_reducible assumption | go_simp, by first | with_reducible assumption | go_simp, by first | with_reducible assumption | go_simp, by first | with_reducible assumption | go_simp, by first | with_reducible assumption | go_simp, by first | with_reducible assumption | go_simp, by first | with_reducible assumption | go_simp, Nm.below hN (by repeat (first | with_reducible exact Below.refl _ _ | with_reducible exact B2 | with_reducible apply below_drewN | with_reducible apply Below.drew | (with_reducible refine Below.alloc ?_ (by first | (simp; done) | (simp; omega) | omega) _) | (with_reducible refine Below.setCell ?_ (by first | (simp; done) | (simp; omega) | omega) _))), by repeat (first | with_reducible exact Below.refl _ _ | with_reducible exact B2 | with_reducible apply below_drewN | with_reducible apply Below.drew | (with_reducible refine Below.alloc ?_ (by first | (simp; done) | (simp; omega) | omega) _) | (with_reducible refine Below.setCell ?_ (by first | (simp; done) | (simp; omega) | omega) _)), by first | with_reducible assumption | (simp; done) | (simp; omega)⟩ ?_ ?_
      · rintro W ⟨k3_b4_0, g3_b4_0, k3_b4_1, g3_b4_1, k3_b4_2, g3_b4_2, k3_b4_3, g3_b4_3, k3_b5_0, g3_b5_0, k3_b5_1, g3_b5_1, k3_b5_2, g3_b5_2, k3_b5_3, g3_b5_3, k3_g7_0, g3_g7_0, k3_g7_1, g3_g7_1, k3_g7_2, g3_g7_2, k3_g7_3, g3_g7_3, k3_g8_0, g3_g8_0, k3_g8_1, g3_g8_1, k3_g8_2, g3_g8_2, k3_g8_3, g3_g8_3, e3_0, B3, z3⟩; exact ⟨k3_b4_0, g3_b4_0, k3_b4_1, g3_b4_1, k3_b4_2, g3_b4_2, k3_b4_3, g3_b4_3, k3_b5_0, g3_b5_0, k3_b5_1, g3_b5_1, k3_b5_2, g3_b5_2, k3_b5_3, g3_b5_3, k3_g7_0, g3_g7_0, k3_g7_1, g3_g7_1, k3_g7_2, g3_g7_2, k3_g7_3, g3_g7_3, k3_g8_0, g3_g8_0, k3_g8_1, g3_g8_1, k3_g8_2, g3_g8_2, k3_g8_3, g3_g8_3, e3_0⟩
      (try clear B2)
      (try clear z2)
      (try clear k2_b4_0)
      (try clear g2_b4_0)
      (try clear k2_b4_1)
      (try clear g2_b4_1)
      (try clear k2_b4_2)
      (try clear g2_b4_2)
      (try clear k2_b4_3)
      (try clear g2_b4_3)
      (try clear k2_b5_0)
      (try clear g2_b5_0)
      (try clear k2_b5_1)
      (try clear g2_b5_1)
      (try clear k2_b5_2)
      (try clear g2_b5_2)
      (try clear k2_b5_3)
      (try clear g2_b5_3)
      (try clear k2_g7_0)
      (try clear g2_g7_0)
      (try clear k2_g7_1)
      (try clear g2_g7_1)
      (try clear k2_g7_2)
      (try clear g2_g7_2)
      (try clear k2_g7_3)
      (try clear g2_g7_3)
      (try clear k2_g8_0)
      (try clear g2_g8_0)
      (try clear k2_g8_1)
      (try clear g2_g8_1)
      (try clear k2_g8_2)
      (try clear g2_g8_2)
      (try clear k2_g8_3)
      (try clear g2_g8_3)
      (try clear e2_0)
      (try clear q2_b4)
      (try clear x2_b4)
      (try clear y2_b4)
      (try clear q2_b5)
      (try clear x2_b5)
      (try clear y2_b5)
      (try clear q2_g7)
      (try clear x2_g7)
      (try clear y2_g7)
      (try clear q2_g8)
      (try clear x2_g8)
      (try clear y2_g8)
      rintro w3 ⟨k3_b4_0, g3_b4_0, k3_b4_1, g3_b4_1, k3_b4_2, g3_b4_2, k3_b4_3, g3_b4_3, k3_b5_0, g3_b5_0, k3_b5_1, g3_b5_1, k3_b5_2, g3_b5_2, k3_b5_3, g3_b5_3, k3_g7_0, g3_g7_0, k3_g7_1, g3_g7_1, k3_g7_2, g3_g7_2, k3_g7_3, g3_g7_3, k3_g8_0, g3_g8_0, k3_g8_1, g3_g8_1, k3_g8_2, g3_g8_2, k3_g8_3, g3_g8_3, e3_0, B3, z3⟩ gg
      simp only [List.take_succ_cons, List.take_zero, List.drop_succ_cons, List.drop_zero, List.cons_append, List.nil_append, List.append_nil]
      refine obe_val (by rfl) ?_ ?_
      · clear k3_b4_0 g3_b4_0 k3_b4_1 g3_b4_1 k3_b4_2 g3_b4_2 k3_b4_3 g3_b4_3 k3_b5_0 g3_b5_0 k3_b5_1 g3_b5_1 k3_b5_2 g3_b5_2 k3_b5_3 g3_b5_3 k3_g7_0 g3_g7_0 k3_g7_1 g3_g7_1 k3_g7_2 g3_g7_2 k3_g7_3 g3_g7_3 k3_g8_0 g3_g8_0 k3_g8_1 g3_g8_1 k3_g8_2 g3_g8_2 k3_g8_3 g3_g8_3 e3_0 B3 z3; intro f hf; have u0 : f 0 = (.int .i64 m) := (by rw [← hf]; rfl); clear hf; rintro w' ⟨h0, h1, h2, h3, h4, h5, h6, h7, h8, h9, h10, h11, h12, h13, h14, h15, h16, h17, h18, h19, h20, h21, h22, h23, h24, h25, h26, h27, h28, h29, h30, h31, h32⟩; go_simp; try exact IntWalk.i64_in _ (by omega)
      refine obe_val (by rfl) ?_ ?_
      · clear k3_b4_0 g3_b4_0 k3_b4_1 g3_b4_1 k3_b4_2 g3_b4_2 k3_b4_3 g3_b4_3 k3_b5_0 g3_b5_0 k3_b5_1 g3_b5_1 k3_b5_2 g3_b5_2 k3_b5_3 g3_b5_3 k3_g7_0 g3_g7_0 k3_g7_1 g3_g7_1 k3_g7_2 g3_g7_2 k3_g7_3 g3_g7_3 k3_g8_0 g3_g8_0 k3_g8_1 g3_g8_1 k3_g8_2 g3_g8_2 k3_g8_3 g3_g8_3 e3_0 B3 z3; intro f hf; have u4 : f 4 = (.pointer (some ⟨w.heap.size, 0, none⟩)) := (by rw [← hf]; rfl); clear hf; rintro w' ⟨h0, h1, h2, h3, h4, h5, h6, h7, h8, h9, h10, h11, h12, h13, h14, h15, h16, h17, h18, h19, h20, h21, h22, h23, h24, h25, h26, h27, h28, h29, h30, h31, h32⟩; go_simp; try exact IntWalk.i64_in _ (by omega)
      refine obe_val (by rfl) ?_ ?_
      · clear k3_b4_0 g3_b4_0 k3_b4_1 g3_b4_1 k3_b4_2 g3_b4_2 k3_b4_3 g3_b4_3 k3_b5_0 g3_b5_0 k3_b5_1 g3_b5_1 k3_b5_2 g3_b5_2 k3_b5_3 g3_b5_3 k3_g7_0 g3_g7_0 k3_g7_1 g3_g7_1 k3_g7_2 g3_g7_2 k3_g7_3 g3_g7_3 k3_g8_0 g3_g8_0 k3_g8_1 g3_g8_1 k3_g8_2 g3_g8_2 k3_g8_3 g3_g8_3 e3_0 B3 z3; intro f hf; have u5 : f 5 = (.pointer (some ⟨w.heap.size + 1, 0, none⟩)) := (by rw [← hf]; rfl); clear hf; rintro w' ⟨h0, h1, h2, h3, h4, h5, h6, h7, h8, h9, h10, h11, h12, h13, h14, h15, h16, h17, h18, h19, h20, h21, h22, h23, h24, h25, h26, h27, h28, h29, h30, h31, h32⟩; go_simp; try exact IntWalk.i64_in _ (by omega)
      refine obe_call (by rfl) ?_ ?_ ?_
      · clear k3_b4_0 g3_b4_0 k3_b4_1 g3_b4_1 k3_b4_2 g3_b4_2 k3_b4_3 g3_b4_3 k3_b5_0 g3_b5_0 k3_b5_1 g3_b5_1 k3_b5_2 g3_b5_2 k3_b5_3 g3_b5_3 k3_g7_0 g3_g7_0 k3_g7_1 g3_g7_1 k3_g7_2 g3_g7_2 k3_g7_3 g3_g7_3 k3_g8_0 g3_g8_0 k3_g8_1 g3_g8_1 k3_g8_2 g3_g8_2 k3_g8_3 g3_g8_3 e3_0 B3 z3; intro f hf; have u32 : f 32 = (.int .i64 m) := (by rw [← hf]; rfl); have u33 : f 33 = (.agg #[.int .u8 r, .int .u8 g, .int .u8 b, .int .u8 a]) := (by rw [← hf]; rfl); have u34 : f 34 = (.agg #[.int .u8 s, .int .u8 t, .int .u8 u, .int .u8 d]) := (by rw [← hf]; rfl); clear hf; intro w' _; simp only [execOp, resolve, invoke, rhoF_tmp, rhoF_func, rhoF_const, u32, u33, u34, List.map_toArray, List.map_cons, List.map_nil]; go_simp
      · clear k3_b4_0 g3_b4_0 k3_b4_1 g3_b4_1 k3_b4_2 g3_b4_2 k3_b4_3 g3_b4_3 k3_b5_0 g3_b5_0 k3_b5_1 g3_b5_1 k3_b5_2 g3_b5_2 k3_b5_3 g3_b5_3 k3_g7_0 g3_g7_0 k3_g7_1 g3_g7_1 k3_g7_2 g3_g7_2 k3_g7_3 g3_g7_3 k3_g8_0 g3_g8_0 k3_g8_1 g3_g8_1 k3_g8_2 g3_g8_2 k3_g8_3 g3_g8_3 e3_0 B3 z3; rintro w' ⟨h0, h1, h2, h3, h4, h5, h6, h7, h8, h9, h10, h11, h12, h13, h14, h15, h16, h17, h18, h19, h20, h21, h22, h23, h24, h25, h26, h27, h28, h29, h30, h31, h32⟩; exact cq _
      refine obe_val (by rfl) ?_ ?_
      · clear k3_b4_0 g3_b4_0 k3_b4_1 g3_b4_1 k3_b4_2 g3_b4_2 k3_b4_3 g3_b4_3 k3_b5_0 g3_b5_0 k3_b5_1 g3_b5_1 k3_b5_2 g3_b5_2 k3_b5_3 g3_b5_3 k3_g7_0 g3_g7_0 k3_g7_1 g3_g7_1 k3_g7_2 g3_g7_2 k3_g7_3 g3_g7_3 k3_g8_0 g3_g8_0 k3_g8_1 g3_g8_1 k3_g8_2 g3_g8_2 k3_g8_3 g3_g8_3 e3_0 B3 z3; intro f hf; have u35 : f 35 = (.agg #[.int .u8 q0, .int .u8 q1, .int .u8 q2, .int .u8 al]) := (by rw [← hf]; rfl); clear hf; rintro w' ⟨h0, h1, h2, h3, h4, h5, h6, h7, h8, h9, h10, h11, h12, h13, h14, h15, h16, h17, h18, h19, h20, h21, h22, h23, h24, h25, h26, h27, h28, h29, h30, h31, h32⟩; go_simp; try exact IntWalk.i64_in _ (by omega)
      refine obe_val (by rfl) ?_ ?_
      · clear k3_b4_0 g3_b4_0 k3_b4_1 g3_b4_1 k3_b4_2 g3_b4_2 k3_b4_3 g3_b4_3 k3_b5_0 g3_b5_0 k3_b5_1 g3_b5_1 k3_b5_2 g3_b5_2 k3_b5_3 g3_b5_3 k3_g7_0 g3_g7_0 k3_g7_1 g3_g7_1 k3_g7_2 g3_g7_2 k3_g7_3 g3_g7_3 k3_g8_0 g3_g8_0 k3_g8_1 g3_g8_1 k3_g8_2 g3_g8_2 k3_g8_3 g3_g8_3 e3_0 B3 z3; intro f hf; have u4 : f 4 = (.pointer (some ⟨w.heap.size, 0, none⟩)) := (by rw [← hf]; rfl); clear hf; rintro w' ⟨h0, h1, h2, h3, h4, h5, h6, h7, h8, h9, h10, h11, h12, h13, h14, h15, h16, h17, h18, h19, h20, h21, h22, h23, h24, h25, h26, h27, h28, h29, h30, h31, h32⟩; go_simp; try exact IntWalk.i64_in _ (by omega)
      refine obe_val (by rfl) ?_ ?_
      · clear k3_b4_0 g3_b4_0 k3_b4_1 g3_b4_1 k3_b4_2 g3_b4_2 k3_b4_3 g3_b4_3 k3_b5_0 g3_b5_0 k3_b5_1 g3_b5_1 k3_b5_2 g3_b5_2 k3_b5_3 g3_b5_3 k3_g7_0 g3_g7_0 k3_g7_1 g3_g7_1 k3_g7_2 g3_g7_2 k3_g7_3 g3_g7_3 k3_g8_0 g3_g8_0 k3_g8_1 g3_g8_1 k3_g8_2 g3_g8_2 k3_g8_3 g3_g8_3 e3_0 B3 z3; intro f hf; have u5 : f 5 = (.pointer (some ⟨w.heap.size + 1, 0, none⟩)) := (by rw [← hf]; rfl); clear hf; rintro w' ⟨h0, h1, h2, h3, h4, h5, h6, h7, h8, h9, h10, h11, h12, h13, h14, h15, h16, h17, h18, h19, h20, h21, h22, h23, h24, h25, h26, h27, h28, h29, h30, h31, h32⟩; go_simp; try exact IntWalk.i64_in _ (by omega)
      refine obe_call (by rfl) ?_ ?_ ?_
      · clear k3_b4_0 g3_b4_0 k3_b4_1 g3_b4_1 k3_b4_2 g3_b4_2 k3_b4_3 g3_b4_3 k3_b5_0 g3_b5_0 k3_b5_1 g3_b5_1 k3_b5_2 g3_b5_2 k3_b5_3 g3_b5_3 k3_g7_0 g3_g7_0 k3_g7_1 g3_g7_1 k3_g7_2 g3_g7_2 k3_g7_3 g3_g7_3 k3_g8_0 g3_g8_0 k3_g8_1 g3_g8_1 k3_g8_2 g3_g8_2 k3_g8_3 g3_g8_3 e3_0 B3 z3; intro f hf; have u37 : f 37 = (.agg #[.int .u8 r, .int .u8 g, .int .u8 b, .int .u8 a]) := (by rw [← hf]; rfl); have u38 : f 38 = (.agg #[.int .u8 s, .int .u8 t, .int .u8 u, .int .u8 d]) := (by rw [← hf]; rfl); clear hf; intro w' _; simp only [execOp, resolve, invoke, rhoF_tmp, rhoF_func, rhoF_const, u37, u38, List.map_toArray, List.map_cons, List.map_nil]; go_simp
      · clear k3_b4_0 g3_b4_0 k3_b4_1 g3_b4_1 k3_b4_2 g3_b4_2 k3_b4_3 g3_b4_3 k3_b5_0 g3_b5_0 k3_b5_1 g3_b5_1 k3_b5_2 g3_b5_2 k3_b5_3 g3_b5_3 k3_g7_0 g3_g7_0 k3_g7_1 g3_g7_1 k3_g7_2 g3_g7_2 k3_g7_3 g3_g7_3 k3_g8_0 g3_g8_0 k3_g8_1 g3_g8_1 k3_g8_2 g3_g8_2 k3_g8_3 g3_g8_3 e3_0 B3 z3; rintro w' ⟨h0, h1, h2, h3, h4, h5, h6, h7, h8, h9, h10, h11, h12, h13, h14, h15, h16, h17, h18, h19, h20, h21, h22, h23, h24, h25, h26, h27, h28, h29, h30, h31, h32⟩; exact cp _
      refine obe_val (by rfl) ?_ ?_
      · clear k3_b4_0 g3_b4_0 k3_b4_1 g3_b4_1 k3_b4_2 g3_b4_2 k3_b4_3 g3_b4_3 k3_b5_0 g3_b5_0 k3_b5_1 g3_b5_1 k3_b5_2 g3_b5_2 k3_b5_3 g3_b5_3 k3_g7_0 g3_g7_0 k3_g7_1 g3_g7_1 k3_g7_2 g3_g7_2 k3_g7_3 g3_g7_3 k3_g8_0 g3_g8_0 k3_g8_1 g3_g8_1 k3_g8_2 g3_g8_2 k3_g8_3 g3_g8_3 e3_0 B3 z3; intro f hf; have u39 : f 39 = (.agg #[.int .u8 p0, .int .u8 p1, .int .u8 p2, .int .u8 al]) := (by rw [← hf]; rfl); clear hf; rintro w' ⟨h0, h1, h2, h3, h4, h5, h6, h7, h8, h9, h10, h11, h12, h13, h14, h15, h16, h17, h18, h19, h20, h21, h22, h23, h24, h25, h26, h27, h28, h29, h30, h31, h32⟩; go_simp; try exact IntWalk.i64_in _ (by omega)
      refine obe_val (by rfl) ?_ ?_
      · clear k3_b4_0 g3_b4_0 k3_b4_1 g3_b4_1 k3_b4_2 g3_b4_2 k3_b4_3 g3_b4_3 k3_b5_0 g3_b5_0 k3_b5_1 g3_b5_1 k3_b5_2 g3_b5_2 k3_b5_3 g3_b5_3 k3_g7_0 g3_g7_0 k3_g7_1 g3_g7_1 k3_g7_2 g3_g7_2 k3_g7_3 g3_g7_3 k3_g8_0 g3_g8_0 k3_g8_1 g3_g8_1 k3_g8_2 g3_g8_2 k3_g8_3 g3_g8_3 e3_0 B3 z3; intro f hf; have u36 : f 36 = (.int .u8 al) := (by rw [← hf]; rfl); have u40 : f 40 = (.int .u8 al) := (by rw [← hf]; rfl); clear hf; rintro w' ⟨h0, h1, h2, h3, h4, h5, h6, h7, h8, h9, h10, h11, h12, h13, h14, h15, h16, h17, h18, h19, h20, h21, h22, h23, h24, h25, h26, h27, h28, h29, h30, h31, h32⟩; go_simp; try exact IntWalk.i64_in _ (by omega)
      refine obe_val (by rfl) ?_ ?_
      · clear k3_b4_0 g3_b4_0 k3_b4_1 g3_b4_1 k3_b4_2 g3_b4_2 k3_b4_3 g3_b4_3 k3_b5_0 g3_b5_0 k3_b5_1 g3_b5_1 k3_b5_2 g3_b5_2 k3_b5_3 g3_b5_3 k3_g7_0 g3_g7_0 k3_g7_1 g3_g7_1 k3_g7_2 g3_g7_2 k3_g7_3 g3_g7_3 k3_g8_0 g3_g8_0 k3_g8_1 g3_g8_1 k3_g8_2 g3_g8_2 k3_g8_3 g3_g8_3 e3_0 B3 z3; intro f hf; have u41 : f 41 = (.bool true) := (by rw [← hf]; rfl); clear hf; rintro w' ⟨h0, h1, h2, h3, h4, h5, h6, h7, h8, h9, h10, h11, h12, h13, h14, h15, h16, h17, h18, h19, h20, h21, h22, h23, h24, h25, h26, h27, h28, h29, h30, h31, h32⟩; go_simp; try exact IntWalk.i64_in _ (by omega)
      refine obe_val (by rfl) ?_ ?_
      · clear k3_b4_0 g3_b4_0 k3_b4_1 g3_b4_1 k3_b4_2 g3_b4_2 k3_b4_3 g3_b4_3 k3_b5_0 g3_b5_0 k3_b5_1 g3_b5_1 k3_b5_2 g3_b5_2 k3_b5_3 g3_b5_3 k3_g7_0 g3_g7_0 k3_g7_1 g3_g7_1 k3_g7_2 g3_g7_2 k3_g7_3 g3_g7_3 k3_g8_0 g3_g8_0 k3_g8_1 g3_g8_1 k3_g8_2 g3_g8_2 k3_g8_3 g3_g8_3 e3_0 B3 z3; intro f hf; have u0 : f 0 = (.int .i64 m) := (by rw [← hf]; rfl); clear hf; rintro w' ⟨h0, h1, h2, h3, h4, h5, h6, h7, h8, h9, h10, h11, h12, h13, h14, h15, h16, h17, h18, h19, h20, h21, h22, h23, h24, h25, h26, h27, h28, h29, h30, h31, h32⟩; go_simp; try exact IntWalk.i64_in _ (by omega)
      refine obe_val (by rfl) ?_ ?_
      · clear k3_b4_0 g3_b4_0 k3_b4_1 g3_b4_1 k3_b4_2 g3_b4_2 k3_b4_3 g3_b4_3 k3_b5_0 g3_b5_0 k3_b5_1 g3_b5_1 k3_b5_2 g3_b5_2 k3_b5_3 g3_b5_3 k3_g7_0 g3_g7_0 k3_g7_1 g3_g7_1 k3_g7_2 g3_g7_2 k3_g7_3 g3_g7_3 k3_g8_0 g3_g8_0 k3_g8_1 g3_g8_1 k3_g8_2 g3_g8_2 k3_g8_3 g3_g8_3 e3_0 B3 z3; intro f hf; have u43 : f 43 = (.int .i64 m) := (by rw [← hf]; rfl); clear hf; rintro w' ⟨h0, h1, h2, h3, h4, h5, h6, h7, h8, h9, h10, h11, h12, h13, h14, h15, h16, h17, h18, h19, h20, h21, h22, h23, h24, h25, h26, h27, h28, h29, h30, h31, h32⟩; go_simp; try exact IntWalk.i64_in _ (by omega)
      refine obe_val (by rfl) ?_ ?_
      · clear k3_b4_0 g3_b4_0 k3_b4_1 g3_b4_1 k3_b4_2 g3_b4_2 k3_b4_3 g3_b4_3 k3_b5_0 g3_b5_0 k3_b5_1 g3_b5_1 k3_b5_2 g3_b5_2 k3_b5_3 g3_b5_3 k3_g7_0 g3_g7_0 k3_g7_1 g3_g7_1 k3_g7_2 g3_g7_2 k3_g7_3 g3_g7_3 k3_g8_0 g3_g8_0 k3_g8_1 g3_g8_1 k3_g8_2 g3_g8_2 k3_g8_3 g3_g8_3 e3_0 B3 z3; intro f hf; have u44 : f 44 = (.bool false) := (by rw [← hf]; rfl); clear hf; rintro w' ⟨h0, h1, h2, h3, h4, h5, h6, h7, h8, h9, h10, h11, h12, h13, h14, h15, h16, h17, h18, h19, h20, h21, h22, h23, h24, h25, h26, h27, h28, h29, h30, h31, h32⟩; go_simp; try exact IntWalk.i64_in _ (by omega)
      refine obe_val (by rfl) ?_ ?_
      · clear k3_b4_0 g3_b4_0 k3_b4_1 g3_b4_1 k3_b4_2 g3_b4_2 k3_b4_3 g3_b4_3 k3_b5_0 g3_b5_0 k3_b5_1 g3_b5_1 k3_b5_2 g3_b5_2 k3_b5_3 g3_b5_3 k3_g7_0 g3_g7_0 k3_g7_1 g3_g7_1 k3_g7_2 g3_g7_2 k3_g7_3 g3_g7_3 k3_g8_0 g3_g8_0 k3_g8_1 g3_g8_1 k3_g8_2 g3_g8_2 k3_g8_3 g3_g8_3 e3_0 B3 z3; intro f hf; have u9 : f 9 = (.int .i64 0) := (by rw [← hf]; rfl); clear hf; rintro w' ⟨h0, h1, h2, h3, h4, h5, h6, h7, h8, h9, h10, h11, h12, h13, h14, h15, h16, h17, h18, h19, h20, h21, h22, h23, h24, h25, h26, h27, h28, h29, h30, h31, h32⟩; go_simp; try exact IntWalk.i64_in _ (by omega)
      refine obe_val (by rfl) ?_ ?_
      · clear k3_b4_0 g3_b4_0 k3_b4_1 g3_b4_1 k3_b4_2 g3_b4_2 k3_b4_3 g3_b4_3 k3_b5_0 g3_b5_0 k3_b5_1 g3_b5_1 k3_b5_2 g3_b5_2 k3_b5_3 g3_b5_3 k3_g7_0 g3_g7_0 k3_g7_1 g3_g7_1 k3_g7_2 g3_g7_2 k3_g7_3 g3_g7_3 k3_g8_0 g3_g8_0 k3_g8_1 g3_g8_1 k3_g8_2 g3_g8_2 k3_g8_3 g3_g8_3 e3_0 B3 z3; intro f hf; have u46 : f 46 = (.int .i64 0) := (by rw [← hf]; rfl); clear hf; rintro w' ⟨h0, h1, h2, h3, h4, h5, h6, h7, h8, h9, h10, h11, h12, h13, h14, h15, h16, h17, h18, h19, h20, h21, h22, h23, h24, h25, h26, h27, h28, h29, h30, h31, h32⟩; go_simp; try exact IntWalk.i64_in _ (by omega)
      refine obe_val (by rfl) ?_ ?_
      · clear k3_b4_0 g3_b4_0 k3_b4_1 g3_b4_1 k3_b4_2 g3_b4_2 k3_b4_3 g3_b4_3 k3_b5_0 g3_b5_0 k3_b5_1 g3_b5_1 k3_b5_2 g3_b5_2 k3_b5_3 g3_b5_3 k3_g7_0 g3_g7_0 k3_g7_1 g3_g7_1 k3_g7_2 g3_g7_2 k3_g7_3 g3_g7_3 k3_g8_0 g3_g8_0 k3_g8_1 g3_g8_1 k3_g8_2 g3_g8_2 k3_g8_3 g3_g8_3 e3_0 B3 z3; intro f hf; have u45 : f 45 = (.bool false) := (by rw [← hf]; rfl); have u47 : f 47 = (.bool true) := (by rw [← hf]; rfl); clear hf; rintro w' ⟨h0, h1, h2, h3, h4, h5, h6, h7, h8, h9, h10, h11, h12, h13, h14, h15, h16, h17, h18, h19, h20, h21, h22, h23, h24, h25, h26, h27, h28, h29, h30, h31, h32⟩; go_simp; try exact IntWalk.i64_in _ (by omega)
      refine obe_val (by rfl) ?_ ?_
      · clear k3_b4_0 g3_b4_0 k3_b4_1 g3_b4_1 k3_b4_2 g3_b4_2 k3_b4_3 g3_b4_3 k3_b5_0 g3_b5_0 k3_b5_1 g3_b5_1 k3_b5_2 g3_b5_2 k3_b5_3 g3_b5_3 k3_g7_0 g3_g7_0 k3_g7_1 g3_g7_1 k3_g7_2 g3_g7_2 k3_g7_3 g3_g7_3 k3_g8_0 g3_g8_0 k3_g8_1 g3_g8_1 k3_g8_2 g3_g8_2 k3_g8_3 g3_g8_3 e3_0 B3 z3; intro f hf; have u42 : f 42 = (.bool true) := (by rw [← hf]; rfl); have u48 : f 48 = (.bool true) := (by rw [← hf]; rfl); clear hf; rintro w' ⟨h0, h1, h2, h3, h4, h5, h6, h7, h8, h9, h10, h11, h12, h13, h14, h15, h16, h17, h18, h19, h20, h21, h22, h23, h24, h25, h26, h27, h28, h29, h30, h31, h32⟩; go_simp; try exact IntWalk.i64_in _ (by omega)
      refine obe_val (by rfl) ?_ ?_
      · clear k3_b4_0 g3_b4_0 k3_b4_1 g3_b4_1 k3_b4_2 g3_b4_2 k3_b4_3 g3_b4_3 k3_b5_0 g3_b5_0 k3_b5_1 g3_b5_1 k3_b5_2 g3_b5_2 k3_b5_3 g3_b5_3 k3_g7_0 g3_g7_0 k3_g7_1 g3_g7_1 k3_g7_2 g3_g7_2 k3_g7_3 g3_g7_3 k3_g8_0 g3_g8_0 k3_g8_1 g3_g8_1 k3_g8_2 g3_g8_2 k3_g8_3 g3_g8_3 e3_0 B3 z3; intro f hf; have u49 : f 49 = (.bool true) := (by rw [← hf]; rfl); clear hf; rintro w' ⟨h0, h1, h2, h3, h4, h5, h6, h7, h8, h9, h10, h11, h12, h13, h14, h15, h16, h17, h18, h19, h20, h21, h22, h23, h24, h25, h26, h27, h28, h29, h30, h31, h32⟩; go_simp; try exact IntWalk.i64_in _ (by omega)
      refine obe_call (by rfl) ?_ ?_ ?_
      · clear k3_b4_0 g3_b4_0 k3_b4_1 g3_b4_1 k3_b4_2 g3_b4_2 k3_b4_3 g3_b4_3 k3_b5_0 g3_b5_0 k3_b5_1 g3_b5_1 k3_b5_2 g3_b5_2 k3_b5_3 g3_b5_3 k3_g7_0 g3_g7_0 k3_g7_1 g3_g7_1 k3_g7_2 g3_g7_2 k3_g7_3 g3_g7_3 k3_g8_0 g3_g8_0 k3_g8_1 g3_g8_1 k3_g8_2 g3_g8_2 k3_g8_3 g3_g8_3 e3_0 B3 z3; intro f hf; clear hf; intro w' _; simp only [execOp, resolve, invoke, rhoF_tmp, rhoF_func, rhoF_const, List.map_toArray, List.map_cons, List.map_nil]; go_simp
      · clear k3_b4_0 g3_b4_0 k3_b4_1 g3_b4_1 k3_b4_2 g3_b4_2 k3_b4_3 g3_b4_3 k3_b5_0 g3_b5_0 k3_b5_1 g3_b5_1 k3_b5_2 g3_b5_2 k3_b5_3 g3_b5_3 k3_g7_0 g3_g7_0 k3_g7_1 g3_g7_1 k3_g7_2 g3_g7_2 k3_g7_3 g3_g7_3 k3_g8_0 g3_g8_0 k3_g8_1 g3_g8_1 k3_g8_2 g3_g8_2 k3_g8_3 g3_g8_3 e3_0 B3 z3; rintro w' ⟨h0, h1, h2, h3, h4, h5, h6, h7, h8, h9, h10, h11, h12, h13, h14, h15, h16, h17, h18, h19, h20, h21, h22, h23, h24, h25, h26, h27, h28, h29, h30, h31, h32⟩; exact bex_any _ (by assumption)
      refine obe_val (by rfl) ?_ ?_
      · clear k3_b4_0 g3_b4_0 k3_b4_1 g3_b4_1 k3_b4_2 g3_b4_2 k3_b4_3 g3_b4_3 k3_b5_0 g3_b5_0 k3_b5_1 g3_b5_1 k3_b5_2 g3_b5_2 k3_b5_3 g3_b5_3 k3_g7_0 g3_g7_0 k3_g7_1 g3_g7_1 k3_g7_2 g3_g7_2 k3_g7_3 g3_g7_3 k3_g8_0 g3_g8_0 k3_g8_1 g3_g8_1 k3_g8_2 g3_g8_2 k3_g8_3 g3_g8_3 e3_0 B3 z3; intro f hf; have u50 : f 50 = (.bool true) := (by rw [← hf]; rfl); have u51 : f 51 = (.bool true) := (by rw [← hf]; rfl); clear hf; rintro w' ⟨h0, h1, h2, h3, h4, h5, h6, h7, h8, h9, h10, h11, h12, h13, h14, h15, h16, h17, h18, h19, h20, h21, h22, h23, h24, h25, h26, h27, h28, h29, h30, h31, h32⟩; go_simp; try exact IntWalk.i64_in _ (by omega)
      refine obe_val (by rfl) ?_ ?_
      · clear k3_b4_0 g3_b4_0 k3_b4_1 g3_b4_1 k3_b4_2 g3_b4_2 k3_b4_3 g3_b4_3 k3_b5_0 g3_b5_0 k3_b5_1 g3_b5_1 k3_b5_2 g3_b5_2 k3_b5_3 g3_b5_3 k3_g7_0 g3_g7_0 k3_g7_1 g3_g7_1 k3_g7_2 g3_g7_2 k3_g7_3 g3_g7_3 k3_g8_0 g3_g8_0 k3_g8_1 g3_g8_1 k3_g8_2 g3_g8_2 k3_g8_3 g3_g8_3 e3_0 B3 z3; intro f hf; have u52 : f 52 = (.bool true) := (by rw [← hf]; rfl); clear hf; rintro w' ⟨h0, h1, h2, h3, h4, h5, h6, h7, h8, h9, h10, h11, h12, h13, h14, h15, h16, h17, h18, h19, h20, h21, h22, h23, h24, h25, h26, h27, h28, h29, h30, h31, h32⟩; go_simp; try exact IntWalk.i64_in _ (by omega)
      refine obe_nil ?_
      rintro w4 ⟨h0, h1, h2, h3, h4, h5, h6, h7, h8, h9, h10, h11, h12, h13, h14, h15, h16, h17, h18, h19, h20, h21, h22, h23, h24, h25, h26, h27, h28, h29, h30, h31, h32⟩ hb4 hF
      (try simp only [List.nil_append, List.append_nil, List.cons_append] at hF)
      simp only [puts, putD, Act.put, List.setIfInBounds_toArray, List.set_cons_zero, List.set_cons_succ]
      clear hF
      have k4_b4_0 := bcs hb4 k3_b4_0
      have g4_b4_0 := bfs hb4 k3_b4_0 g3_b4_0
      have k4_b4_1 := bcs hb4 k3_b4_1
      have g4_b4_1 := bfs hb4 k3_b4_1 g3_b4_1
      have k4_b4_2 := bcs hb4 k3_b4_2
      have g4_b4_2 := bfs hb4 k3_b4_2 g3_b4_2
      have k4_b4_3 := bcs hb4 k3_b4_3
      have g4_b4_3 := bfs hb4 k3_b4_3 g3_b4_3
      have k4_b5_0 := bcs hb4 k3_b5_0
      have g4_b5_0 := bfs hb4 k3_b5_0 g3_b5_0
      have k4_b5_1 := bcs hb4 k3_b5_1
      have g4_b5_1 := bfs hb4 k3_b5_1 g3_b5_1
      have k4_b5_2 := bcs hb4 k3_b5_2
      have g4_b5_2 := bfs hb4 k3_b5_2 g3_b5_2
      have k4_b5_3 := bcs hb4 k3_b5_3
      have g4_b5_3 := bfs hb4 k3_b5_3 g3_b5_3
      have k4_g7_0 := bcs hb4 k3_g7_0
      have g4_g7_0 := bfs hb4 k3_g7_0 g3_g7_0
      have k4_g7_1 := bcs hb4 k3_g7_1
      have g4_g7_1 := bfs hb4 k3_g7_1 g3_g7_1
      have k4_g7_2 := bcs hb4 k3_g7_2
      have g4_g7_2 := bfs hb4 k3_g7_2 g3_g7_2
      have k4_g7_3 := bcs hb4 k3_g7_3
      have g4_g7_3 := bfs hb4 k3_g7_3 g3_g7_3
      have k4_g8_0 := bcs hb4 k3_g8_0
      have g4_g8_0 := bfs hb4 k3_g8_0 g3_g8_0
      have k4_g8_1 := bcs hb4 k3_g8_1
      have g4_g8_1 := bfs hb4 k3_g8_1 g3_g8_1
      have k4_g8_2 := bcs hb4 k3_g8_2
      have g4_g8_2 := bfs hb4 k3_g8_2 g3_g8_2
      have k4_g8_3 := bcs hb4 k3_g8_3
      have g4_g8_3 := bfs hb4 k3_g8_3 g3_g8_3
      clear h0 h1 h2 h3 h4 h5 h6 h7 h8 h9 h10 h11 h12 h13 h14 h15 h16 h17 h18 h19 h20 h21 h22 h23 h24 h25 h26 h27 h28 h29 h30 h31 h32
      have B4 := bel_step B3 hb4
      have z4 := Nat.le_trans z3 hb4.size
      have e4_0 := Nm.below hN B4
      clear hb4
      (try clear B3)
      (try clear z3)
      (try clear k3_b4_0)
      (try clear g3_b4_0)
      (try clear k3_b4_1)
      (try clear g3_b4_1)
      (try clear k3_b4_2)
      (try clear g3_b4_2)
      (try clear k3_b4_3)
      (try clear g3_b4_3)
      (try clear k3_b5_0)
      (try clear g3_b5_0)
      (try clear k3_b5_1)
      (try clear g3_b5_1)
      (try clear k3_b5_2)
      (try clear g3_b5_2)
      (try clear k3_b5_3)
      (try clear g3_b5_3)
      (try clear k3_g7_0)
      (try clear g3_g7_0)
      (try clear k3_g7_1)
      (try clear g3_g7_1)
      (try clear k3_g7_2)
      (try clear g3_g7_2)
      (try clear k3_g7_3)
      (try clear g3_g7_3)
      (try clear k3_g8_0)
      (try clear g3_g8_0)
      (try clear k3_g8_1)
      (try clear g3_g8_1)
      (try clear k3_g8_2)
      (try clear g3_g8_2)
      (try clear k3_g8_3)
      (try clear g3_g8_3)
      (try clear e3_0)
      (try clear q3_b4)
      (try clear x3_b4)
      (try clear y3_b4)
      (try clear q3_b5)
      (try clear x3_b5)
      (try clear y3_b5)
      (try clear q3_g7)
      (try clear x3_g7)
      (try clear y3_g7)
      (try clear q3_g8)
      (try clear x3_g8)
      (try clear y3_g8)
      have q4_b4 : w.heap.size < w4.heap.size := qlt k4_b4_0
      have x4_b4 : ¬ w.heap.size = w4.heap.size := qne k4_b4_0
      have y4_b4 : ¬ w4.heap.size = w.heap.size := fun h => qne k4_b4_0 h.symm
      have q4_b5 : w.heap.size + 1 < w4.heap.size := qlt k4_b5_0
      have x4_b5 : ¬ w.heap.size + 1 = w4.heap.size := qne k4_b5_0
      have y4_b5 : ¬ w4.heap.size = w.heap.size + 1 := fun h => qne k4_b5_0 h.symm
      have q4_g7 : g7 < w4.heap.size := qlt k4_g7_0
      have x4_g7 : ¬ g7 = w4.heap.size := qne k4_g7_0
      have y4_g7 : ¬ w4.heap.size = g7 := fun h => qne k4_g7_0 h.symm
      have q4_g8 : g8 < w4.heap.size := qlt k4_g8_0
      have x4_g8 : ¬ g8 = w4.heap.size := qne k4_g8_0
      have y4_g8 : ¬ w4.heap.size = g8 := fun h => qne k4_g8_0 h.symm
      unfold wpList
      go_wp2
      go_ret
      refine ⟨rfl, ?_⟩
      repeat (first | with_reducible exact Below.refl _ _ | with_reducible exact B4 | with_reducible apply below_drewN | with_reducible apply Below.drew | (with_reducible refine Below.alloc ?_ (by first | (simp; done) | (simp; omega) | omega) _) | (with_reducible refine Below.setCell ?_ (by first | (simp; done) | (simp; omega) | omega) _))
  · rw [show (decide (1 ≤ m) && decide (m ≤ 13)) = false by simp; omega] at cv
    clear hm
    go_enter Tryd.func13, Tryd.ntmps13
    go_wp2_with (first | (go_at_call 17; (with_reducible refine (cv _).mono ?_); rintro e w9 ⟨rfl, rfl⟩) | (go_at_call 20; (with_reducible refine (bex_any _ (Nm.below hN (by repeat (first | with_reducible exact Below.refl _ _ | fail | with_reducible apply below_drewN | with_reducible apply Below.drew | (with_reducible refine Below.alloc ?_ (by first | (simp; done) | (simp; omega) | omega) _) | (with_reducible refine Below.setCell ?_ (by first | (simp; done) | (simp; omega) | omega) _))))).mono ?_); rintro e w1 ⟨rfl, hb1⟩; have k1_b4_0 : w1.cell? ⟨w.heap.size, 0, none⟩ = some (.int .u8 r) := bcs hb1 (by go_simp); have g1_b4_0 : w1.frozen? ⟨w.heap.size, 0, none⟩ = false := bfs hb1 (v := .int .u8 r) (by go_simp) (by go_simp); have k1_b4_1 : w1.cell? ⟨w.heap.size, 1, none⟩ = some (.int .u8 g) := bcs hb1 (by go_simp); have g1_b4_1 : w1.frozen? ⟨w.heap.size, 1, none⟩ = false := bfs hb1 (v := .int .u8 g) (by go_simp) (by go_simp); have k1_b4_2 : w1.cell? ⟨w.heap.size, 2, none⟩ = some (.int .u8 b) := bcs hb1 (by go_simp); have g1_b4_2 : w1.frozen? ⟨w.heap.size, 2, none⟩ = false := bfs hb1 (v := .int .u8 b) (by go_simp) (by go_simp); have k1_b4_3 : w1.cell? ⟨w.heap.size, 3, none⟩ = some (.int .u8 a) := bcs hb1 (by go_simp); have g1_b4_3 : w1.frozen? ⟨w.heap.size, 3, none⟩ = false := bfs hb1 (v := .int .u8 a) (by go_simp) (by go_simp); have k1_b5_0 : w1.cell? ⟨w.heap.size + 1, 0, none⟩ = some (.int .u8 s) := bcs hb1 (by go_simp); have g1_b5_0 : w1.frozen? ⟨w.heap.size + 1, 0, none⟩ = false := bfs hb1 (v := .int .u8 s) (by go_simp) (by go_simp); have k1_b5_1 : w1.cell? ⟨w.heap.size + 1, 1, none⟩ = some (.int .u8 t) := bcs hb1 (by go_simp); have g1_b5_1 : w1.frozen? ⟨w.heap.size + 1, 1, none⟩ = false := bfs hb1 (v := .int .u8 t) (by go_simp) (by go_simp); have k1_b5_2 : w1.cell? ⟨w.heap.size + 1, 2, none⟩ = some (.int .u8 u) := bcs hb1 (by go_simp); have g1_b5_2 : w1.frozen? ⟨w.heap.size + 1, 2, none⟩ = false := bfs hb1 (v := .int .u8 u) (by go_simp) (by go_simp); have k1_b5_3 : w1.cell? ⟨w.heap.size + 1, 3, none⟩ = some (.int .u8 d) := bcs hb1 (by go_simp); have g1_b5_3 : w1.frozen? ⟨w.heap.size + 1, 3, none⟩ = false := bfs hb1 (v := .int .u8 d) (by go_simp) (by go_simp); have q1_b4 : w.heap.size < w1.heap.size := qlt k1_b4_0; have x1_b4 : ¬ w.heap.size = w1.heap.size := qne k1_b4_0; have y1_b4 : ¬ w1.heap.size = w.heap.size := fun h => qne k1_b4_0 h.symm; have q1_b5 : w.heap.size + 1 < w1.heap.size := qlt k1_b5_0; have x1_b5 : ¬ w.heap.size + 1 = w1.heap.size := qne k1_b5_0; have y1_b5 : ¬ w1.heap.size = w.heap.size + 1 := fun h => qne k1_b5_0 h.symm; have B1 : Below w.heap.size w w1 := bel_step (by repeat (first | with_reducible exact Below.refl _ _ | fail | with_reducible apply below_drewN | with_reducible apply Below.drew | (with_reducible refine Below.alloc ?_ (by first | (simp; done) | (simp; omega) | omega) _) | (with_reducible refine Below.setCell ?_ (by first | (simp; done) | (simp; omega) | omega) _))) hb1; have z1 : w.heap.size + 1 + 1 ≤ w1.heap.size := Nat.le_trans (by first | with_reducible assumption | (simp; done) | (simp; omega)) hb1.size; have e1_0 := Nm.below hN B1; clear hb1))
    go_ret
    refine ⟨rfl, ?_⟩
    repeat (first | with_reducible exact Below.refl _ _ | with_reducible exact B1 | with_reducible apply below_drewN | with_reducible apply Below.drew | (with_reducible refine Below.alloc ?_ (by first | (simp; done) | (simp; omega) | omega) _) | (with_reducible refine Below.setCell ?_ (by first | (simp; done) | (simp; omega) | omega) _))
end Go.Proofs.YtdhajiaepaamgaaDoor
