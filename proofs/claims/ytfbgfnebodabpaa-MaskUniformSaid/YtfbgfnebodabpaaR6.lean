
import Derived.Test.YtfbgfnebodabpaaR5
import Derived.WalkKit
import Derived.WalkSpells
import Derived.WalkLawsBesides
import Derived.Lib.Hide
import Derived.Below
import Derived.Deep.QuietTactic
import Derived.BigQuiet
import Derived.Deep.RegionHeld3
import Derived.Deep.DrawnRows
import Derived.Deep.DeepFit
import Derived.IntWalk
namespace Go.Proofs.Ytfbgfnebodabpaa
open Go.RowKit
set_option linter.unusedVariables false
set_option linter.unusedSimpArgs false
attribute [local go_sem ↓] Go.wp_at_zero Go.wp_at_succ
attribute [local go_sem] rhoF_tmp rhoF_const rhoF_global rhoF_func

set_option maxHeartbeats 4000000 in
theorem union_any (a b c d s t u v : Int) (w : World) :
    Calls Try.prog 52 #[.agg #[.int .i64 a, .int .i64 b, .int .i64 c, .int .i64 d], .agg #[.int .i64 s, .int .i64 t, .int .i64 u, .int .i64 v]] w fun e w' => e = .returned (.agg #[.int .i64 (uLo (eR a b c d) (eR s t u v) a s), .int .i64 (uLo (eR a b c d) (eR s t u v) b t), .int .i64 (uHi (eR a b c d) (eR s t u v) c u), .int .i64 (uHi (eR a b c d) (eR s t u v) d v)]) ∧ Below w.heap.size w w' := by
  have c1 := fun w => canon_any a b c d w
  have c2 := fun w => canon_any s t u v w
  cases ea : eR a b c d with
  | true =>
    rw [ea] at c1
    simp only [cn_true] at c1
    simp only [uLo, uHi, if_true]
    obtain ⟨S, eS⟩ : ∃ x, cn (eR s t u v) s = x := ⟨_, rfl⟩
    obtain ⟨T, eT⟩ : ∃ x, cn (eR s t u v) t = x := ⟨_, rfl⟩
    obtain ⟨U, eU⟩ : ∃ x, cn (eR s t u v) u = x := ⟨_, rfl⟩
    obtain ⟨V, eV⟩ : ∃ x, cn (eR s t u v) v = x := ⟨_, rfl⟩
    rw [eS, eT, eU, eV] at c2 ⊢
    clear ea eS eT eU eV
    go_enter Try.func52, Try.ntmps52
    go_wp2
    refine wp_region_env (fun w' => w'.cell? ⟨w.heap.size, 0, none⟩ = some (.int .i64 a) ∧ w'.frozen? ⟨w.heap.size, 0, none⟩ = false ∧ w'.cell? ⟨w.heap.size, 1, none⟩ = some (.int .i64 b) ∧ w'.frozen? ⟨w.heap.size, 1, none⟩ = false ∧ w'.cell? ⟨w.heap.size, 2, none⟩ = some (.int .i64 c) ∧ w'.frozen? ⟨w.heap.size, 2, none⟩ = false ∧ w'.cell? ⟨w.heap.size, 3, none⟩ = some (.int .i64 d) ∧ w'.frozen? ⟨w.heap.size, 3, none⟩ = false ∧ w'.cell? ⟨w.heap.size + 1, 0, none⟩ = some (.int .i64 s) ∧ w'.frozen? ⟨w.heap.size + 1, 0, none⟩ = false ∧ w'.cell? ⟨w.heap.size + 1, 1, none⟩ = some (.int .i64 t) ∧ w'.frozen? ⟨w.heap.size + 1, 1, none⟩ = false ∧ w'.cell? ⟨w.heap.size + 1, 2, none⟩ = some (.int .i64 u) ∧ w'.frozen? ⟨w.heap.size + 1, 2, none⟩ = false ∧ w'.cell? ⟨w.heap.size + 1, 3, none⟩ = some (.int .i64 v) ∧ w'.frozen? ⟨w.heap.size + 1, 3, none⟩ = false ∧ w'.cell? ⟨w.heap.size + 1 + 1, 0, none⟩ = some (.int .i64 0) ∧ w'.frozen? ⟨w.heap.size + 1 + 1, 0, none⟩ = false ∧ w'.cell? ⟨w.heap.size + 1 + 1, 1, none⟩ = some (.int .i64 0) ∧ w'.frozen? ⟨w.heap.size + 1 + 1, 1, none⟩ = false ∧ w'.cell? ⟨w.heap.size + 1 + 1, 2, none⟩ = some (.int .i64 0) ∧ w'.frozen? ⟨w.heap.size + 1 + 1, 2, none⟩ = false ∧ w'.cell? ⟨w.heap.size + 1 + 1, 3, none⟩ = some (.int .i64 0) ∧ w'.frozen? ⟨w.heap.size + 1 + 1, 3, none⟩ = false) (fun W => W.cell? ⟨w.heap.size, 0, none⟩ = some (.int .i64 a) ∧ W.frozen? ⟨w.heap.size, 0, none⟩ = false ∧ W.cell? ⟨w.heap.size, 1, none⟩ = some (.int .i64 b) ∧ W.frozen? ⟨w.heap.size, 1, none⟩ = false ∧ W.cell? ⟨w.heap.size, 2, none⟩ = some (.int .i64 c) ∧ W.frozen? ⟨w.heap.size, 2, none⟩ = false ∧ W.cell? ⟨w.heap.size, 3, none⟩ = some (.int .i64 d) ∧ W.frozen? ⟨w.heap.size, 3, none⟩ = false ∧ W.cell? ⟨w.heap.size + 1, 0, none⟩ = some (.int .i64 s) ∧ W.frozen? ⟨w.heap.size + 1, 0, none⟩ = false ∧ W.cell? ⟨w.heap.size + 1, 1, none⟩ = some (.int .i64 t) ∧ W.frozen? ⟨w.heap.size + 1, 1, none⟩ = false ∧ W.cell? ⟨w.heap.size + 1, 2, none⟩ = some (.int .i64 u) ∧ W.frozen? ⟨w.heap.size + 1, 2, none⟩ = false ∧ W.cell? ⟨w.heap.size + 1, 3, none⟩ = some (.int .i64 v) ∧ W.frozen? ⟨w.heap.size + 1, 3, none⟩ = false ∧ W.cell? ⟨w.heap.size + 1 + 1, 0, none⟩ = some (.int .i64 0) ∧ W.frozen? ⟨w.heap.size + 1 + 1, 0, none⟩ = false ∧ W.cell? ⟨w.heap.size + 1 + 1, 1, none⟩ = some (.int .i64 0) ∧ W.frozen? ⟨w.heap.size + 1 + 1, 1, none⟩ = false ∧ W.cell? ⟨w.heap.size + 1 + 1, 2, none⟩ = some (.int .i64 0) ∧ W.frozen? ⟨w.heap.size + 1 + 1, 2, none⟩ = false ∧ W.cell? ⟨w.heap.size + 1 + 1, 3, none⟩ = some (.int .i64 0) ∧ W.frozen? ⟨w.heap.size + 1 + 1, 3, none⟩ = false ∧ Below w.heap.size w W ∧ w.heap.size + 1 + 1 + 1 ≤ W.heap.size) 4 40 [.val (.agg #[.int .i64 a, .int .i64 b, .int .i64 c, .int .i64 d]), .call 48 #[.agg #[.int .i64 a, .int .i64 b, .int .i64 c, .int .i64 d]] (.agg #[.int .i64 0, .int .i64 0, .int .i64 0, .int .i64 0]), .val (.agg #[.int .i64 s, .int .i64 t, .int .i64 u, .int .i64 v]), .call 48 #[.agg #[.int .i64 s, .int .i64 t, .int .i64 u, .int .i64 v]] (.agg #[.int .i64 S, .int .i64 T, .int .i64 U, .int .i64 V])] (by kernel_rfl) (by kernel_rfl) rfl (by kernel_rfl) (by rintro w1 w2 ⟨h0, h1, h2, h3, h4, h5, h6, h7, h8, h9, h10, h11, h12, h13, h14, h15, h16, h17, h18, h19, h20, h21, h22, h23⟩ hb; exact ⟨bcs hb h0, bfs hb h0 h1, bcs hb h2, bfs hb h2 h3, bcs hb h4, bfs hb h4 h5, bcs hb h6, bfs hb h6 h7, bcs hb h8, bfs hb h8 h9, bcs hb h10, bfs hb h10 h11, bcs hb h12, bfs hb h12 h13, bcs hb h14, bfs hb h14 h15, bcs hb h16, bfs hb h16 h17, bcs hb h18, bfs hb h18 h19, bcs hb h20, bfs hb h20 h21, bcs hb h22, bfs hb h22 h23⟩) ⟨by first | with_reducible assumption | go_simp, by first | with_reducible assumption | go_simp, by first | with_reducible assumption | go_simp, by first | with_reducible assumption | go_simp, by first | with_reducible assumption | go_simp, by first | with_reducible assumption | go_simp, by first | with_reducible assumption | go_simp, by first | with_reducible assumption | go_simp, by first | with_reducible assumption | go_simp, by first | with_reducible assumption | go_simp, by first | with_reducible assumption | go_simp, by first | with_reducible assumption | go_simp, by first | with_reducible assumption | go_simp, by first | with_reducible assumption | go_simp, by first | with_reducible assumption | go_simp, by first | with_reducible assumption | go_simp, by first | with_reducible assumption | go_simp, by first | with_reducible assumption | go_simp, by first | with_reducible assumption | go_simp, by first | with_reducible assumption | go_simp, by first | with_reducible assumption | go_simp, by first | with_reducible assumption | go_simp, by first | with_reducible assumption | go_simp, by first | with_reducible assumption | go_simp, by repeat (first | with_reducible exact Below.refl _ _ | fail | with_reducible apply below_drewN | with_reducible apply Below.drew | (with_reducible refine Below.alloc ?_ (by first | (simp; done) | (simp; omega) | omega) _) | (with_reducible refine Below.setCell ?_ (by first | (simp; done) | (simp; omega) | omega) _)), by first | with_reducible assumption | (simp; done) | (simp; omega)⟩ ?_ ?_
    · rintro W ⟨k1_b2_0, g1_b2_0, k1_b2_1, g1_b2_1, k1_b2_2, g1_b2_2, k1_b2_3, g1_b2_3, k1_b3_0, g1_b3_0, k1_b3_1, g1_b3_1, k1_b3_2, g1_b3_2, k1_b3_3, g1_b3_3, k1_b4_0, g1_b4_0, k1_b4_1, g1_b4_1, k1_b4_2, g1_b4_2, k1_b4_3, g1_b4_3, B1, z1⟩; exact ⟨k1_b2_0, g1_b2_0, k1_b2_1, g1_b2_1, k1_b2_2, g1_b2_2, k1_b2_3, g1_b2_3, k1_b3_0, g1_b3_0, k1_b3_1, g1_b3_1, k1_b3_2, g1_b3_2, k1_b3_3, g1_b3_3, k1_b4_0, g1_b4_0, k1_b4_1, g1_b4_1, k1_b4_2, g1_b4_2, k1_b4_3, g1_b4_3⟩
    rintro w1 ⟨k1_b2_0, g1_b2_0, k1_b2_1, g1_b2_1, k1_b2_2, g1_b2_2, k1_b2_3, g1_b2_3, k1_b3_0, g1_b3_0, k1_b3_1, g1_b3_1, k1_b3_2, g1_b3_2, k1_b3_3, g1_b3_3, k1_b4_0, g1_b4_0, k1_b4_1, g1_b4_1, k1_b4_2, g1_b4_2, k1_b4_3, g1_b4_3, B1, z1⟩ gg
    simp only [List.take_succ_cons, List.take_zero, List.drop_succ_cons, List.drop_zero, List.cons_append, List.nil_append, List.append_nil]
    refine obe_val (by rfl) ?_ ?_
    · clear k1_b2_0 g1_b2_0 k1_b2_1 g1_b2_1 k1_b2_2 g1_b2_2 k1_b2_3 g1_b2_3 k1_b3_0 g1_b3_0 k1_b3_1 g1_b3_1 k1_b3_2 g1_b3_2 k1_b3_3 g1_b3_3 k1_b4_0 g1_b4_0 k1_b4_1 g1_b4_1 k1_b4_2 g1_b4_2 k1_b4_3 g1_b4_3 B1 z1; intro f hf; have u2 : f 2 = (.pointer (some ⟨w.heap.size, 0, none⟩)) := (by rw [← hf]; rfl); clear hf; rintro w' ⟨h0, h1, h2, h3, h4, h5, h6, h7, h8, h9, h10, h11, h12, h13, h14, h15, h16, h17, h18, h19, h20, h21, h22, h23⟩; go_simp; try exact IntWalk.i64_in _ (by omega)
    refine obe_call (by rfl) ?_ ?_ ?_
    · clear k1_b2_0 g1_b2_0 k1_b2_1 g1_b2_1 k1_b2_2 g1_b2_2 k1_b2_3 g1_b2_3 k1_b3_0 g1_b3_0 k1_b3_1 g1_b3_1 k1_b3_2 g1_b3_2 k1_b3_3 g1_b3_3 k1_b4_0 g1_b4_0 k1_b4_1 g1_b4_1 k1_b4_2 g1_b4_2 k1_b4_3 g1_b4_3 B1 z1; intro f hf; have u5 : f 5 = (.agg #[.int .i64 a, .int .i64 b, .int .i64 c, .int .i64 d]) := (by rw [← hf]; rfl); clear hf; intro w' _; simp only [execOp, resolve, invoke, rhoF_tmp, rhoF_func, rhoF_const, u5, List.map_toArray, List.map_cons, List.map_nil]; go_simp
    · clear k1_b2_0 g1_b2_0 k1_b2_1 g1_b2_1 k1_b2_2 g1_b2_2 k1_b2_3 g1_b2_3 k1_b3_0 g1_b3_0 k1_b3_1 g1_b3_1 k1_b3_2 g1_b3_2 k1_b3_3 g1_b3_3 k1_b4_0 g1_b4_0 k1_b4_1 g1_b4_1 k1_b4_2 g1_b4_2 k1_b4_3 g1_b4_3 B1 z1; rintro w' ⟨h0, h1, h2, h3, h4, h5, h6, h7, h8, h9, h10, h11, h12, h13, h14, h15, h16, h17, h18, h19, h20, h21, h22, h23⟩; exact c1 _
    refine obe_val (by rfl) ?_ ?_
    · clear k1_b2_0 g1_b2_0 k1_b2_1 g1_b2_1 k1_b2_2 g1_b2_2 k1_b2_3 g1_b2_3 k1_b3_0 g1_b3_0 k1_b3_1 g1_b3_1 k1_b3_2 g1_b3_2 k1_b3_3 g1_b3_3 k1_b4_0 g1_b4_0 k1_b4_1 g1_b4_1 k1_b4_2 g1_b4_2 k1_b4_3 g1_b4_3 B1 z1; intro f hf; have u3 : f 3 = (.pointer (some ⟨w.heap.size + 1, 0, none⟩)) := (by rw [← hf]; rfl); clear hf; rintro w' ⟨h0, h1, h2, h3, h4, h5, h6, h7, h8, h9, h10, h11, h12, h13, h14, h15, h16, h17, h18, h19, h20, h21, h22, h23⟩; go_simp; try exact IntWalk.i64_in _ (by omega)
    refine obe_call (by rfl) ?_ ?_ ?_
    · clear k1_b2_0 g1_b2_0 k1_b2_1 g1_b2_1 k1_b2_2 g1_b2_2 k1_b2_3 g1_b2_3 k1_b3_0 g1_b3_0 k1_b3_1 g1_b3_1 k1_b3_2 g1_b3_2 k1_b3_3 g1_b3_3 k1_b4_0 g1_b4_0 k1_b4_1 g1_b4_1 k1_b4_2 g1_b4_2 k1_b4_3 g1_b4_3 B1 z1; intro f hf; have u7 : f 7 = (.agg #[.int .i64 s, .int .i64 t, .int .i64 u, .int .i64 v]) := (by rw [← hf]; rfl); clear hf; intro w' _; simp only [execOp, resolve, invoke, rhoF_tmp, rhoF_func, rhoF_const, u7, List.map_toArray, List.map_cons, List.map_nil]; go_simp
    · clear k1_b2_0 g1_b2_0 k1_b2_1 g1_b2_1 k1_b2_2 g1_b2_2 k1_b2_3 g1_b2_3 k1_b3_0 g1_b3_0 k1_b3_1 g1_b3_1 k1_b3_2 g1_b3_2 k1_b3_3 g1_b3_3 k1_b4_0 g1_b4_0 k1_b4_1 g1_b4_1 k1_b4_2 g1_b4_2 k1_b4_3 g1_b4_3 B1 z1; rintro w' ⟨h0, h1, h2, h3, h4, h5, h6, h7, h8, h9, h10, h11, h12, h13, h14, h15, h16, h17, h18, h19, h20, h21, h22, h23⟩; exact c2 _
    refine obe_nil ?_
    rintro w2 ⟨h0, h1, h2, h3, h4, h5, h6, h7, h8, h9, h10, h11, h12, h13, h14, h15, h16, h17, h18, h19, h20, h21, h22, h23⟩ hb2 hF
    (try simp only [List.nil_append, List.append_nil, List.cons_append] at hF)
    simp only [puts, putD, Act.put, List.setIfInBounds_toArray, List.set_cons_zero, List.set_cons_succ]
    clear hF
    have k2_b2_0 := bcs hb2 k1_b2_0
    have g2_b2_0 := bfs hb2 k1_b2_0 g1_b2_0
    have k2_b2_1 := bcs hb2 k1_b2_1
    have g2_b2_1 := bfs hb2 k1_b2_1 g1_b2_1
    have k2_b2_2 := bcs hb2 k1_b2_2
    have g2_b2_2 := bfs hb2 k1_b2_2 g1_b2_2
    have k2_b2_3 := bcs hb2 k1_b2_3
    have g2_b2_3 := bfs hb2 k1_b2_3 g1_b2_3
    have k2_b3_0 := bcs hb2 k1_b3_0
    have g2_b3_0 := bfs hb2 k1_b3_0 g1_b3_0
    have k2_b3_1 := bcs hb2 k1_b3_1
    have g2_b3_1 := bfs hb2 k1_b3_1 g1_b3_1
    have k2_b3_2 := bcs hb2 k1_b3_2
    have g2_b3_2 := bfs hb2 k1_b3_2 g1_b3_2
    have k2_b3_3 := bcs hb2 k1_b3_3
    have g2_b3_3 := bfs hb2 k1_b3_3 g1_b3_3
    have k2_b4_0 := bcs hb2 k1_b4_0
    have g2_b4_0 := bfs hb2 k1_b4_0 g1_b4_0
    have k2_b4_1 := bcs hb2 k1_b4_1
    have g2_b4_1 := bfs hb2 k1_b4_1 g1_b4_1
    have k2_b4_2 := bcs hb2 k1_b4_2
    have g2_b4_2 := bfs hb2 k1_b4_2 g1_b4_2
    have k2_b4_3 := bcs hb2 k1_b4_3
    have g2_b4_3 := bfs hb2 k1_b4_3 g1_b4_3
    clear h0 h1 h2 h3 h4 h5 h6 h7 h8 h9 h10 h11 h12 h13 h14 h15 h16 h17 h18 h19 h20 h21 h22 h23
    have B2 := bel_step B1 hb2
    have z2 := Nat.le_trans z1 hb2.size
    clear hb2
    (try clear B1)
    (try clear z1)
    (try clear k1_b2_0)
    (try clear g1_b2_0)
    (try clear k1_b2_1)
    (try clear g1_b2_1)
    (try clear k1_b2_2)
    (try clear g1_b2_2)
    (try clear k1_b2_3)
    (try clear g1_b2_3)
    (try clear k1_b3_0)
    (try clear g1_b3_0)
    (try clear k1_b3_1)
    (try clear g1_b3_1)
    (try clear k1_b3_2)
    (try clear g1_b3_2)
    (try clear k1_b3_3)
    (try clear g1_b3_3)
    (try clear k1_b4_0)
    (try clear g1_b4_0)
    (try clear k1_b4_1)
    (try clear g1_b4_1)
    (try clear k1_b4_2)
    (try clear g1_b4_2)
    (try clear k1_b4_3)
    (try clear g1_b4_3)
    (try clear q1_b2)
    (try clear x1_b2)
    (try clear y1_b2)
    (try clear q1_b3)
    (try clear x1_b3)
    (try clear y1_b3)
    (try clear q1_b4)
    (try clear x1_b4)
    (try clear y1_b4)
    have q2_b2 : w.heap.size < w2.heap.size := qlt k2_b2_0
    have x2_b2 : ¬ w.heap.size = w2.heap.size := qne k2_b2_0
    have y2_b2 : ¬ w2.heap.size = w.heap.size := fun h => qne k2_b2_0 h.symm
    have q2_b3 : w.heap.size + 1 < w2.heap.size := qlt k2_b3_0
    have x2_b3 : ¬ w.heap.size + 1 = w2.heap.size := qne k2_b3_0
    have y2_b3 : ¬ w2.heap.size = w.heap.size + 1 := fun h => qne k2_b3_0 h.symm
    have q2_b4 : w.heap.size + 1 + 1 < w2.heap.size := qlt k2_b4_0
    have x2_b4 : ¬ w.heap.size + 1 + 1 = w2.heap.size := qne k2_b4_0
    have y2_b4 : ¬ w2.heap.size = w.heap.size + 1 + 1 := fun h => qne k2_b4_0 h.symm
    go_wp2
    refine bodyPost_ret (v := .agg #[.int .i64 S, .int .i64 T, .int .i64 U, .int .i64 V]) (by simp [results, Try.results52, go_sem, *]) rfl ⟨rfl, ?_⟩
    repeat (first | with_reducible exact Below.refl _ _ | with_reducible exact B2 | with_reducible apply below_drewN | with_reducible apply Below.drew | (with_reducible refine Below.alloc ?_ (by first | (simp; done) | (simp; omega) | omega) _) | (with_reducible refine Below.setCell ?_ (by first | (simp; done) | (simp; omega) | omega) _))
  | false =>
    have k := (eR_false a b c d).1 ea
    rw [ea] at c1
    simp only [cn_false] at c1
    cases es : eR s t u v with
    | true =>
      rw [es] at c2
      simp only [cn_true] at c2
      simp only [uLo, uHi, if_true, Bool.false_eq_true, if_false]
      clear ea es
      by_cases z0 : a = 0
      case neg =>
        have p0 : (a == 0) = false := by simpa using z0
        clear z0
        clear k
        go_enter Try.func52, Try.ntmps52
        go_wp2
        refine wp_region_env (fun w' => w'.cell? ⟨w.heap.size, 0, none⟩ = some (.int .i64 a) ∧ w'.frozen? ⟨w.heap.size, 0, none⟩ = false ∧ w'.cell? ⟨w.heap.size, 1, none⟩ = some (.int .i64 b) ∧ w'.frozen? ⟨w.heap.size, 1, none⟩ = false ∧ w'.cell? ⟨w.heap.size, 2, none⟩ = some (.int .i64 c) ∧ w'.frozen? ⟨w.heap.size, 2, none⟩ = false ∧ w'.cell? ⟨w.heap.size, 3, none⟩ = some (.int .i64 d) ∧ w'.frozen? ⟨w.heap.size, 3, none⟩ = false ∧ w'.cell? ⟨w.heap.size + 1, 0, none⟩ = some (.int .i64 s) ∧ w'.frozen? ⟨w.heap.size + 1, 0, none⟩ = false ∧ w'.cell? ⟨w.heap.size + 1, 1, none⟩ = some (.int .i64 t) ∧ w'.frozen? ⟨w.heap.size + 1, 1, none⟩ = false ∧ w'.cell? ⟨w.heap.size + 1, 2, none⟩ = some (.int .i64 u) ∧ w'.frozen? ⟨w.heap.size + 1, 2, none⟩ = false ∧ w'.cell? ⟨w.heap.size + 1, 3, none⟩ = some (.int .i64 v) ∧ w'.frozen? ⟨w.heap.size + 1, 3, none⟩ = false ∧ w'.cell? ⟨w.heap.size + 1 + 1, 0, none⟩ = some (.int .i64 0) ∧ w'.frozen? ⟨w.heap.size + 1 + 1, 0, none⟩ = false ∧ w'.cell? ⟨w.heap.size + 1 + 1, 1, none⟩ = some (.int .i64 0) ∧ w'.frozen? ⟨w.heap.size + 1 + 1, 1, none⟩ = false ∧ w'.cell? ⟨w.heap.size + 1 + 1, 2, none⟩ = some (.int .i64 0) ∧ w'.frozen? ⟨w.heap.size + 1 + 1, 2, none⟩ = false ∧ w'.cell? ⟨w.heap.size + 1 + 1, 3, none⟩ = some (.int .i64 0) ∧ w'.frozen? ⟨w.heap.size + 1 + 1, 3, none⟩ = false) (fun W => W.cell? ⟨w.heap.size, 0, none⟩ = some (.int .i64 a) ∧ W.frozen? ⟨w.heap.size, 0, none⟩ = false ∧ W.cell? ⟨w.heap.size, 1, none⟩ = some (.int .i64 b) ∧ W.frozen? ⟨w.heap.size, 1, none⟩ = false ∧ W.cell? ⟨w.heap.size, 2, none⟩ = some (.int .i64 c) ∧ W.frozen? ⟨w.heap.size, 2, none⟩ = false ∧ W.cell? ⟨w.heap.size, 3, none⟩ = some (.int .i64 d) ∧ W.frozen? ⟨w.heap.size, 3, none⟩ = false ∧ W.cell? ⟨w.heap.size + 1, 0, none⟩ = some (.int .i64 s) ∧ W.frozen? ⟨w.heap.size + 1, 0, none⟩ = false ∧ W.cell? ⟨w.heap.size + 1, 1, none⟩ = some (.int .i64 t) ∧ W.frozen? ⟨w.heap.size + 1, 1, none⟩ = false ∧ W.cell? ⟨w.heap.size + 1, 2, none⟩ = some (.int .i64 u) ∧ W.frozen? ⟨w.heap.size + 1, 2, none⟩ = false ∧ W.cell? ⟨w.heap.size + 1, 3, none⟩ = some (.int .i64 v) ∧ W.frozen? ⟨w.heap.size + 1, 3, none⟩ = false ∧ W.cell? ⟨w.heap.size + 1 + 1, 0, none⟩ = some (.int .i64 0) ∧ W.frozen? ⟨w.heap.size + 1 + 1, 0, none⟩ = false ∧ W.cell? ⟨w.heap.size + 1 + 1, 1, none⟩ = some (.int .i64 0) ∧ W.frozen? ⟨w.heap.size + 1 + 1, 1, none⟩ = false ∧ W.cell? ⟨w.heap.size + 1 + 1, 2, none⟩ = some (.int .i64 0) ∧ W.frozen? ⟨w.heap.size + 1 + 1, 2, none⟩ = false ∧ W.cell? ⟨w.heap.size + 1 + 1, 3, none⟩ = some (.int .i64 0) ∧ W.frozen? ⟨w.heap.size + 1 + 1, 3, none⟩ = false ∧ Below w.heap.size w W ∧ w.heap.size + 1 + 1 + 1 ≤ W.heap.size) 4 40 [.val (.agg #[.int .i64 a, .int .i64 b, .int .i64 c, .int .i64 d]), .call 48 #[.agg #[.int .i64 a, .int .i64 b, .int .i64 c, .int .i64 d]] (.agg #[.int .i64 a, .int .i64 b, .int .i64 c, .int .i64 d]), .val (.agg #[.int .i64 s, .int .i64 t, .int .i64 u, .int .i64 v]), .call 48 #[.agg #[.int .i64 s, .int .i64 t, .int .i64 u, .int .i64 v]] (.agg #[.int .i64 0, .int .i64 0, .int .i64 0, .int .i64 0])] (by kernel_rfl) (by kernel_rfl) rfl (by kernel_rfl) (by rintro w1 w2 ⟨h0, h1, h2, h3, h4, h5, h6, h7, h8, h9, h10, h11, h12, h13, h14, h15, h16, h17, h18, h19, h20, h21, h22, h23⟩ hb; exact ⟨bcs hb h0, bfs hb h0 h1, bcs hb h2, bfs hb h2 h3, bcs hb h4, bfs hb h4 h5, bcs hb h6, bfs hb h6 h7, bcs hb h8, bfs hb h8 h9, bcs hb h10, bfs hb h10 h11, bcs hb h12, bfs hb h12 h13, bcs hb h14, bfs hb h14 h15, bcs hb h16, bfs hb h16 h17, bcs hb h18, bfs hb h18 h19, bcs hb h20, bfs hb h20 h21, bcs hb h22, bfs hb h22 h23⟩) ⟨by first | with_reducible assumption | go_simp, by first | with_reducible assumption | go_simp, by first | with_reducible assumption | go_simp, by first | with_reducible assumption | go_simp, by first | with_reducible assumption | go_simp, by first | with_reducible assumption | go_simp, by first | with_reducible assumption | go_simp, by first | with_reducible assumption | go_simp, by first | with_reducible assumption | go_simp, by first | with_reducible assumption | go_simp, by first | with_reducible assumption | go_simp, by first | with_reducible assumption | go_simp, by first | with_reducible assumption | go_simp, by first | with_reducible assumption | go_simp, by first | with_reducible assumption | go_simp, by first | with_reducible assumption | go_simp, by first | with_reducible assumption | go_simp, by first | with_reducible assumption | go_simp, by first | with_reducible assumption | go_simp, by first | with_reducible assumption | go_simp, by first | with_reducible assumption | go_simp, by first | with_reducible assumption | go_simp, by first | with_reducible assumption | go_simp, by first | with_reducible assumption | go_simp, by repeat (first | with_reducible exact Below.refl _ _ | fail | with_reducible apply below_drewN | with_reducible apply Below.drew | (with_reducible refine Below.alloc ?_ (by first | (simp; done) | (simp; omega) | omega) _) | (with_reducible refine Below.setCell ?_ (by first | (simp; done) | (simp; omega) | omega) _)), by first | with_reducible assumption | (simp; done) | (simp; omega)⟩ ?_ ?_
        · rintro W ⟨k1_b2_0, g1_b2_0, k1_b2_1, g1_b2_1, k1_b2_2, g1_b2_2, k1_b2_3, g1_b2_3, k1_b3_0, g1_b3_0, k1_b3_1, g1_b3_1, k1_b3_2, g1_b3_2, k1_b3_3, g1_b3_3, k1_b4_0, g1_b4_0, k1_b4_1, g1_b4_1, k1_b4_2, g1_b4_2, k1_b4_3, g1_b4_3, B1, z1⟩; exact ⟨k1_b2_0, g1_b2_0, k1_b2_1, g1_b2_1, k1_b2_2, g1_b2_2, k1_b2_3, g1_b2_3, k1_b3_0, g1_b3_0, k1_b3_1, g1_b3_1, k1_b3_2, g1_b3_2, k1_b3_3, g1_b3_3, k1_b4_0, g1_b4_0, k1_b4_1, g1_b4_1, k1_b4_2, g1_b4_2, k1_b4_3, g1_b4_3⟩
        rintro w1 ⟨k1_b2_0, g1_b2_0, k1_b2_1, g1_b2_1, k1_b2_2, g1_b2_2, k1_b2_3, g1_b2_3, k1_b3_0, g1_b3_0, k1_b3_1, g1_b3_1, k1_b3_2, g1_b3_2, k1_b3_3, g1_b3_3, k1_b4_0, g1_b4_0, k1_b4_1, g1_b4_1, k1_b4_2, g1_b4_2, k1_b4_3, g1_b4_3, B1, z1⟩ gg
        simp only [List.take_succ_cons, List.take_zero, List.drop_succ_cons, List.drop_zero, List.cons_append, List.nil_append, List.append_nil]
        refine obe_val (by rfl) ?_ ?_
        · clear k1_b2_0 g1_b2_0 k1_b2_1 g1_b2_1 k1_b2_2 g1_b2_2 k1_b2_3 g1_b2_3 k1_b3_0 g1_b3_0 k1_b3_1 g1_b3_1 k1_b3_2 g1_b3_2 k1_b3_3 g1_b3_3 k1_b4_0 g1_b4_0 k1_b4_1 g1_b4_1 k1_b4_2 g1_b4_2 k1_b4_3 g1_b4_3 B1 z1; intro f hf; have u2 : f 2 = (.pointer (some ⟨w.heap.size, 0, none⟩)) := (by rw [← hf]; rfl); clear hf; rintro w' ⟨h0, h1, h2, h3, h4, h5, h6, h7, h8, h9, h10, h11, h12, h13, h14, h15, h16, h17, h18, h19, h20, h21, h22, h23⟩; go_simp; try exact IntWalk.i64_in _ (by omega)
        refine obe_call (by rfl) ?_ ?_ ?_
        · clear k1_b2_0 g1_b2_0 k1_b2_1 g1_b2_1 k1_b2_2 g1_b2_2 k1_b2_3 g1_b2_3 k1_b3_0 g1_b3_0 k1_b3_1 g1_b3_1 k1_b3_2 g1_b3_2 k1_b3_3 g1_b3_3 k1_b4_0 g1_b4_0 k1_b4_1 g1_b4_1 k1_b4_2 g1_b4_2 k1_b4_3 g1_b4_3 B1 z1; intro f hf; have u5 : f 5 = (.agg #[.int .i64 a, .int .i64 b, .int .i64 c, .int .i64 d]) := (by rw [← hf]; rfl); clear hf; intro w' _; simp only [execOp, resolve, invoke, rhoF_tmp, rhoF_func, rhoF_const, u5, List.map_toArray, List.map_cons, List.map_nil]; go_simp
        · clear k1_b2_0 g1_b2_0 k1_b2_1 g1_b2_1 k1_b2_2 g1_b2_2 k1_b2_3 g1_b2_3 k1_b3_0 g1_b3_0 k1_b3_1 g1_b3_1 k1_b3_2 g1_b3_2 k1_b3_3 g1_b3_3 k1_b4_0 g1_b4_0 k1_b4_1 g1_b4_1 k1_b4_2 g1_b4_2 k1_b4_3 g1_b4_3 B1 z1; rintro w' ⟨h0, h1, h2, h3, h4, h5, h6, h7, h8, h9, h10, h11, h12, h13, h14, h15, h16, h17, h18, h19, h20, h21, h22, h23⟩; exact c1 _
        refine obe_val (by rfl) ?_ ?_
        · clear k1_b2_0 g1_b2_0 k1_b2_1 g1_b2_1 k1_b2_2 g1_b2_2 k1_b2_3 g1_b2_3 k1_b3_0 g1_b3_0 k1_b3_1 g1_b3_1 k1_b3_2 g1_b3_2 k1_b3_3 g1_b3_3 k1_b4_0 g1_b4_0 k1_b4_1 g1_b4_1 k1_b4_2 g1_b4_2 k1_b4_3 g1_b4_3 B1 z1; intro f hf; have u3 : f 3 = (.pointer (some ⟨w.heap.size + 1, 0, none⟩)) := (by rw [← hf]; rfl); clear hf; rintro w' ⟨h0, h1, h2, h3, h4, h5, h6, h7, h8, h9, h10, h11, h12, h13, h14, h15, h16, h17, h18, h19, h20, h21, h22, h23⟩; go_simp; try exact IntWalk.i64_in _ (by omega)
        refine obe_call (by rfl) ?_ ?_ ?_
        · clear k1_b2_0 g1_b2_0 k1_b2_1 g1_b2_1 k1_b2_2 g1_b2_2 k1_b2_3 g1_b2_3 k1_b3_0 g1_b3_0 k1_b3_1 g1_b3_1 k1_b3_2 g1_b3_2 k1_b3_3 g1_b3_3 k1_b4_0 g1_b4_0 k1_b4_1 g1_b4_1 k1_b4_2 g1_b4_2 k1_b4_3 g1_b4_3 B1 z1; intro f hf; have u7 : f 7 = (.agg #[.int .i64 s, .int .i64 t, .int .i64 u, .int .i64 v]) := (by rw [← hf]; rfl); clear hf; intro w' _; simp only [execOp, resolve, invoke, rhoF_tmp, rhoF_func, rhoF_const, u7, List.map_toArray, List.map_cons, List.map_nil]; go_simp
        · clear k1_b2_0 g1_b2_0 k1_b2_1 g1_b2_1 k1_b2_2 g1_b2_2 k1_b2_3 g1_b2_3 k1_b3_0 g1_b3_0 k1_b3_1 g1_b3_1 k1_b3_2 g1_b3_2 k1_b3_3 g1_b3_3 k1_b4_0 g1_b4_0 k1_b4_1 g1_b4_1 k1_b4_2 g1_b4_2 k1_b4_3 g1_b4_3 B1 z1; rintro w' ⟨h0, h1, h2, h3, h4, h5, h6, h7, h8, h9, h10, h11, h12, h13, h14, h15, h16, h17, h18, h19, h20, h21, h22, h23⟩; exact c2 _
        refine obe_nil ?_
        rintro w2 ⟨h0, h1, h2, h3, h4, h5, h6, h7, h8, h9, h10, h11, h12, h13, h14, h15, h16, h17, h18, h19, h20, h21, h22, h23⟩ hb2 hF
        (try simp only [List.nil_append, List.append_nil, List.cons_append] at hF)
        simp only [puts, putD, Act.put, List.setIfInBounds_toArray, List.set_cons_zero, List.set_cons_succ]
        clear hF
        have k2_b2_0 := bcs hb2 k1_b2_0
        have g2_b2_0 := bfs hb2 k1_b2_0 g1_b2_0
        have k2_b2_1 := bcs hb2 k1_b2_1
        have g2_b2_1 := bfs hb2 k1_b2_1 g1_b2_1
        have k2_b2_2 := bcs hb2 k1_b2_2
        have g2_b2_2 := bfs hb2 k1_b2_2 g1_b2_2
        have k2_b2_3 := bcs hb2 k1_b2_3
        have g2_b2_3 := bfs hb2 k1_b2_3 g1_b2_3
        have k2_b3_0 := bcs hb2 k1_b3_0
        have g2_b3_0 := bfs hb2 k1_b3_0 g1_b3_0
        have k2_b3_1 := bcs hb2 k1_b3_1
        have g2_b3_1 := bfs hb2 k1_b3_1 g1_b3_1
        have k2_b3_2 := bcs hb2 k1_b3_2
        have g2_b3_2 := bfs hb2 k1_b3_2 g1_b3_2
        have k2_b3_3 := bcs hb2 k1_b3_3
        have g2_b3_3 := bfs hb2 k1_b3_3 g1_b3_3
        have k2_b4_0 := bcs hb2 k1_b4_0
        have g2_b4_0 := bfs hb2 k1_b4_0 g1_b4_0
        have k2_b4_1 := bcs hb2 k1_b4_1
        have g2_b4_1 := bfs hb2 k1_b4_1 g1_b4_1
        have k2_b4_2 := bcs hb2 k1_b4_2
        have g2_b4_2 := bfs hb2 k1_b4_2 g1_b4_2
        have k2_b4_3 := bcs hb2 k1_b4_3
        have g2_b4_3 := bfs hb2 k1_b4_3 g1_b4_3
        clear h0 h1 h2 h3 h4 h5 h6 h7 h8 h9 h10 h11 h12 h13 h14 h15 h16 h17 h18 h19 h20 h21 h22 h23
        have B2 := bel_step B1 hb2
        have z2 := Nat.le_trans z1 hb2.size
        clear hb2
        (try clear B1)
        (try clear z1)
        (try clear k1_b2_0)
        (try clear g1_b2_0)
        (try clear k1_b2_1)
        (try clear g1_b2_1)
        (try clear k1_b2_2)
        (try clear g1_b2_2)
        (try clear k1_b2_3)
        (try clear g1_b2_3)
        (try clear k1_b3_0)
        (try clear g1_b3_0)
        (try clear k1_b3_1)
        (try clear g1_b3_1)
        (try clear k1_b3_2)
        (try clear g1_b3_2)
        (try clear k1_b3_3)
        (try clear g1_b3_3)
        (try clear k1_b4_0)
        (try clear g1_b4_0)
        (try clear k1_b4_1)
        (try clear g1_b4_1)
        (try clear k1_b4_2)
        (try clear g1_b4_2)
        (try clear k1_b4_3)
        (try clear g1_b4_3)
        (try clear q1_b2)
        (try clear x1_b2)
        (try clear y1_b2)
        (try clear q1_b3)
        (try clear x1_b3)
        (try clear y1_b3)
        (try clear q1_b4)
        (try clear x1_b4)
        (try clear y1_b4)
        have q2_b2 : w.heap.size < w2.heap.size := qlt k2_b2_0
        have x2_b2 : ¬ w.heap.size = w2.heap.size := qne k2_b2_0
        have y2_b2 : ¬ w2.heap.size = w.heap.size := fun h => qne k2_b2_0 h.symm
        have q2_b3 : w.heap.size + 1 < w2.heap.size := qlt k2_b3_0
        have x2_b3 : ¬ w.heap.size + 1 = w2.heap.size := qne k2_b3_0
        have y2_b3 : ¬ w2.heap.size = w.heap.size + 1 := fun h => qne k2_b3_0 h.symm
        have q2_b4 : w.heap.size + 1 + 1 < w2.heap.size := qlt k2_b4_0
        have x2_b4 : ¬ w.heap.size + 1 + 1 = w2.heap.size := qne k2_b4_0
        have y2_b4 : ¬ w2.heap.size = w.heap.size + 1 + 1 := fun h => qne k2_b4_0 h.symm
        go_wp2
        refine bodyPost_ret (v := .agg #[.int .i64 a, .int .i64 b, .int .i64 c, .int .i64 d]) (by simp [results, Try.results52, go_sem, *]) rfl ⟨rfl, ?_⟩
        repeat (first | with_reducible exact Below.refl _ _ | with_reducible exact B2 | with_reducible apply below_drewN | with_reducible apply Below.drew | (with_reducible refine Below.alloc ?_ (by first | (simp; done) | (simp; omega) | omega) _) | (with_reducible refine Below.setCell ?_ (by first | (simp; done) | (simp; omega) | omega) _))
      by_cases z1 : b = 0
      case neg =>
        have p0 : (a == 0) = true := by simpa using z0
        have p1 : (b == 0) = false := by simpa using z1
        clear z0 z1
        clear k
        go_enter Try.func52, Try.ntmps52
        go_wp2
        refine wp_region_env (fun w' => w'.cell? ⟨w.heap.size, 0, none⟩ = some (.int .i64 a) ∧ w'.frozen? ⟨w.heap.size, 0, none⟩ = false ∧ w'.cell? ⟨w.heap.size, 1, none⟩ = some (.int .i64 b) ∧ w'.frozen? ⟨w.heap.size, 1, none⟩ = false ∧ w'.cell? ⟨w.heap.size, 2, none⟩ = some (.int .i64 c) ∧ w'.frozen? ⟨w.heap.size, 2, none⟩ = false ∧ w'.cell? ⟨w.heap.size, 3, none⟩ = some (.int .i64 d) ∧ w'.frozen? ⟨w.heap.size, 3, none⟩ = false ∧ w'.cell? ⟨w.heap.size + 1, 0, none⟩ = some (.int .i64 s) ∧ w'.frozen? ⟨w.heap.size + 1, 0, none⟩ = false ∧ w'.cell? ⟨w.heap.size + 1, 1, none⟩ = some (.int .i64 t) ∧ w'.frozen? ⟨w.heap.size + 1, 1, none⟩ = false ∧ w'.cell? ⟨w.heap.size + 1, 2, none⟩ = some (.int .i64 u) ∧ w'.frozen? ⟨w.heap.size + 1, 2, none⟩ = false ∧ w'.cell? ⟨w.heap.size + 1, 3, none⟩ = some (.int .i64 v) ∧ w'.frozen? ⟨w.heap.size + 1, 3, none⟩ = false ∧ w'.cell? ⟨w.heap.size + 1 + 1, 0, none⟩ = some (.int .i64 0) ∧ w'.frozen? ⟨w.heap.size + 1 + 1, 0, none⟩ = false ∧ w'.cell? ⟨w.heap.size + 1 + 1, 1, none⟩ = some (.int .i64 0) ∧ w'.frozen? ⟨w.heap.size + 1 + 1, 1, none⟩ = false ∧ w'.cell? ⟨w.heap.size + 1 + 1, 2, none⟩ = some (.int .i64 0) ∧ w'.frozen? ⟨w.heap.size + 1 + 1, 2, none⟩ = false ∧ w'.cell? ⟨w.heap.size + 1 + 1, 3, none⟩ = some (.int .i64 0) ∧ w'.frozen? ⟨w.heap.size + 1 + 1, 3, none⟩ = false) (fun W => W.cell? ⟨w.heap.size, 0, none⟩ = some (.int .i64 a) ∧ W.frozen? ⟨w.heap.size, 0, none⟩ = false ∧ W.cell? ⟨w.heap.size, 1, none⟩ = some (.int .i64 b) ∧ W.frozen? ⟨w.heap.size, 1, none⟩ = false ∧ W.cell? ⟨w.heap.size, 2, none⟩ = some (.int .i64 c) ∧ W.frozen? ⟨w.heap.size, 2, none⟩ = false ∧ W.cell? ⟨w.heap.size, 3, none⟩ = some (.int .i64 d) ∧ W.frozen? ⟨w.heap.size, 3, none⟩ = false ∧ W.cell? ⟨w.heap.size + 1, 0, none⟩ = some (.int .i64 s) ∧ W.frozen? ⟨w.heap.size + 1, 0, none⟩ = false ∧ W.cell? ⟨w.heap.size + 1, 1, none⟩ = some (.int .i64 t) ∧ W.frozen? ⟨w.heap.size + 1, 1, none⟩ = false ∧ W.cell? ⟨w.heap.size + 1, 2, none⟩ = some (.int .i64 u) ∧ W.frozen? ⟨w.heap.size + 1, 2, none⟩ = false ∧ W.cell? ⟨w.heap.size + 1, 3, none⟩ = some (.int .i64 v) ∧ W.frozen? ⟨w.heap.size + 1, 3, none⟩ = false ∧ W.cell? ⟨w.heap.size + 1 + 1, 0, none⟩ = some (.int .i64 0) ∧ W.frozen? ⟨w.heap.size + 1 + 1, 0, none⟩ = false ∧ W.cell? ⟨w.heap.size + 1 + 1, 1, none⟩ = some (.int .i64 0) ∧ W.frozen? ⟨w.heap.size + 1 + 1, 1, none⟩ = false ∧ W.cell? ⟨w.heap.size + 1 + 1, 2, none⟩ = some (.int .i64 0) ∧ W.frozen? ⟨w.heap.size + 1 + 1, 2, none⟩ = false ∧ W.cell? ⟨w.heap.size + 1 + 1, 3, none⟩ = some (.int .i64 0) ∧ W.frozen? ⟨w.heap.size + 1 + 1, 3, none⟩ = false ∧ Below w.heap.size w W ∧ w.heap.size + 1 + 1 + 1 ≤ W.heap.size) 4 40 [.val (.agg #[.int .i64 a, .int .i64 b, .int .i64 c, .int .i64 d]), .call 48 #[.agg #[.int .i64 a, .int .i64 b, .int .i64 c, .int .i64 d]] (.agg #[.int .i64 a, .int .i64 b, .int .i64 c, .int .i64 d]), .val (.agg #[.int .i64 s, .int .i64 t, .int .i64 u, .int .i64 v]), .call 48 #[.agg #[.int .i64 s, .int .i64 t, .int .i64 u, .int .i64 v]] (.agg #[.int .i64 0, .int .i64 0, .int .i64 0, .int .i64 0])] (by kernel_rfl) (by kernel_rfl) rfl (by kernel_rfl) (by rintro w1 w2 ⟨h0, h1, h2, h3, h4, h5, h6, h7, h8, h9, h10, h11, h12, h13, h14, h15, h16, h17, h18, h19, h20, h21, h22, h23⟩ hb; exact ⟨bcs hb h0, bfs hb h0 h1, bcs hb h2, bfs hb h2 h3, bcs hb h4, bfs hb h4 h5, bcs hb h6, bfs hb h6 h7, bcs hb h8, bfs hb h8 h9, bcs hb h10, bfs hb h10 h11, bcs hb h12, bfs hb h12 h13, bcs hb h14, bfs hb h14 h15, bcs hb h16, bfs hb h16 h17, bcs hb h18, bfs hb h18 h19, bcs hb h20, bfs hb h20 h21, bcs hb h22, bfs hb h22 h23⟩) ⟨by first | with_reducible assumption | go_simp, by first | with_reducible assumption | go_simp, by first | with_reducible assumption | go_simp, by first | with_reducible assumption | go_simp, by first | with_reducible assumption | go_simp, by first | with_reducible assumption | go_simp, by first | with_reducible assumption | go_simp, by first | with_reducible assumption | go_simp, by first | with_reducible assumption | go_simp, by first | with_reducible assumption | go_simp, by first | with_reducible assumption | go_simp, by first | with_reducible assumption | go_simp, by first | with_reducible assumption | go_simp, by first | with_reducible assumption | go_simp, by first | with_reducible assumption | go_simp, by first | with_reducible assumption | go_simp, by first | with_reducible assumption | go_simp, by first | with_reducible assumption | go_simp, by first | with_reducible assumption | go_simp, by first | with_reducible assumption | go_simp, by first | with_reducible assumption | go_simp, by first | with_reducible assumption | go_simp, by first | with_reducible assumption | go_simp, by first | with_reducible assumption | go_simp, by repeat (first | with_reducible exact Below.refl _ _ | fail | with_reducible apply below_drewN | with_reducible apply Below.drew | (with_reducible refine Below.alloc ?_ (by first | (simp; done) | (simp; omega) | omega) _) | (with_reducible refine Below.setCell ?_ (by first | (simp; done) | (simp; omega) | omega) _)), by first | with_reducible assumption | (simp; done) | (simp; omega)⟩ ?_ ?_
        · rintro W ⟨k1_b2_0, g1_b2_0, k1_b2_1, g1_b2_1, k1_b2_2, g1_b2_2, k1_b2_3, g1_b2_3, k1_b3_0, g1_b3_0, k1_b3_1, g1_b3_1, k1_b3_2, g1_b3_2, k1_b3_3, g1_b3_3, k1_b4_0, g1_b4_0, k1_b4_1, g1_b4_1, k1_b4_2, g1_b4_2, k1_b4_3, g1_b4_3, B1, z1⟩; exact ⟨k1_b2_0, g1_b2_0, k1_b2_1, g1_b2_1, k1_b2_2, g1_b2_2, k1_b2_3, g1_b2_3, k1_b3_0, g1_b3_0, k1_b3_1, g1_b3_1, k1_b3_2, g1_b3_2, k1_b3_3, g1_b3_3, k1_b4_0, g1_b4_0, k1_b4_1, g1_b4_1, k1_b4_2, g1_b4_2, k1_b4_3, g1_b4_3⟩
        rintro w1 ⟨k1_b2_0, g1_b2_0, k1_b2_1, g1_b2_1, k1_b2_2, g1_b2_2, k1_b2_3, g1_b2_3, k1_b3_0, g1_b3_0, k1_b3_1, g1_b3_1, k1_b3_2, g1_b3_2, k1_b3_3, g1_b3_3, k1_b4_0, g1_b4_0, k1_b4_1, g1_b4_1, k1_b4_2, g1_b4_2, k1_b4_3, g1_b4_3, B1, z1⟩ gg
        simp only [List.take_succ_cons, List.take_zero, List.drop_succ_cons, List.drop_zero, List.cons_append, List.nil_append, List.append_nil]
        refine obe_val (by rfl) ?_ ?_
        · clear k1_b2_0 g1_b2_0 k1_b2_1 g1_b2_1 k1_b2_2 g1_b2_2 k1_b2_3 g1_b2_3 k1_b3_0 g1_b3_0 k1_b3_1 g1_b3_1 k1_b3_2 g1_b3_2 k1_b3_3 g1_b3_3 k1_b4_0 g1_b4_0 k1_b4_1 g1_b4_1 k1_b4_2 g1_b4_2 k1_b4_3 g1_b4_3 B1 z1; intro f hf; have u2 : f 2 = (.pointer (some ⟨w.heap.size, 0, none⟩)) := (by rw [← hf]; rfl); clear hf; rintro w' ⟨h0, h1, h2, h3, h4, h5, h6, h7, h8, h9, h10, h11, h12, h13, h14, h15, h16, h17, h18, h19, h20, h21, h22, h23⟩; go_simp; try exact IntWalk.i64_in _ (by omega)
        refine obe_call (by rfl) ?_ ?_ ?_
        · clear k1_b2_0 g1_b2_0 k1_b2_1 g1_b2_1 k1_b2_2 g1_b2_2 k1_b2_3 g1_b2_3 k1_b3_0 g1_b3_0 k1_b3_1 g1_b3_1 k1_b3_2 g1_b3_2 k1_b3_3 g1_b3_3 k1_b4_0 g1_b4_0 k1_b4_1 g1_b4_1 k1_b4_2 g1_b4_2 k1_b4_3 g1_b4_3 B1 z1; intro f hf; have u5 : f 5 = (.agg #[.int .i64 a, .int .i64 b, .int .i64 c, .int .i64 d]) := (by rw [← hf]; rfl); clear hf; intro w' _; simp only [execOp, resolve, invoke, rhoF_tmp, rhoF_func, rhoF_const, u5, List.map_toArray, List.map_cons, List.map_nil]; go_simp
        · clear k1_b2_0 g1_b2_0 k1_b2_1 g1_b2_1 k1_b2_2 g1_b2_2 k1_b2_3 g1_b2_3 k1_b3_0 g1_b3_0 k1_b3_1 g1_b3_1 k1_b3_2 g1_b3_2 k1_b3_3 g1_b3_3 k1_b4_0 g1_b4_0 k1_b4_1 g1_b4_1 k1_b4_2 g1_b4_2 k1_b4_3 g1_b4_3 B1 z1; rintro w' ⟨h0, h1, h2, h3, h4, h5, h6, h7, h8, h9, h10, h11, h12, h13, h14, h15, h16, h17, h18, h19, h20, h21, h22, h23⟩; exact c1 _
        refine obe_val (by rfl) ?_ ?_
        · clear k1_b2_0 g1_b2_0 k1_b2_1 g1_b2_1 k1_b2_2 g1_b2_2 k1_b2_3 g1_b2_3 k1_b3_0 g1_b3_0 k1_b3_1 g1_b3_1 k1_b3_2 g1_b3_2 k1_b3_3 g1_b3_3 k1_b4_0 g1_b4_0 k1_b4_1 g1_b4_1 k1_b4_2 g1_b4_2 k1_b4_3 g1_b4_3 B1 z1; intro f hf; have u3 : f 3 = (.pointer (some ⟨w.heap.size + 1, 0, none⟩)) := (by rw [← hf]; rfl); clear hf; rintro w' ⟨h0, h1, h2, h3, h4, h5, h6, h7, h8, h9, h10, h11, h12, h13, h14, h15, h16, h17, h18, h19, h20, h21, h22, h23⟩; go_simp; try exact IntWalk.i64_in _ (by omega)
        refine obe_call (by rfl) ?_ ?_ ?_
        · clear k1_b2_0 g1_b2_0 k1_b2_1 g1_b2_1 k1_b2_2 g1_b2_2 k1_b2_3 g1_b2_3 k1_b3_0 g1_b3_0 k1_b3_1 g1_b3_1 k1_b3_2 g1_b3_2 k1_b3_3 g1_b3_3 k1_b4_0 g1_b4_0 k1_b4_1 g1_b4_1 k1_b4_2 g1_b4_2 k1_b4_3 g1_b4_3 B1 z1; intro f hf; have u7 : f 7 = (.agg #[.int .i64 s, .int .i64 t, .int .i64 u, .int .i64 v]) := (by rw [← hf]; rfl); clear hf; intro w' _; simp only [execOp, resolve, invoke, rhoF_tmp, rhoF_func, rhoF_const, u7, List.map_toArray, List.map_cons, List.map_nil]; go_simp
        · clear k1_b2_0 g1_b2_0 k1_b2_1 g1_b2_1 k1_b2_2 g1_b2_2 k1_b2_3 g1_b2_3 k1_b3_0 g1_b3_0 k1_b3_1 g1_b3_1 k1_b3_2 g1_b3_2 k1_b3_3 g1_b3_3 k1_b4_0 g1_b4_0 k1_b4_1 g1_b4_1 k1_b4_2 g1_b4_2 k1_b4_3 g1_b4_3 B1 z1; rintro w' ⟨h0, h1, h2, h3, h4, h5, h6, h7, h8, h9, h10, h11, h12, h13, h14, h15, h16, h17, h18, h19, h20, h21, h22, h23⟩; exact c2 _
        refine obe_nil ?_
        rintro w2 ⟨h0, h1, h2, h3, h4, h5, h6, h7, h8, h9, h10, h11, h12, h13, h14, h15, h16, h17, h18, h19, h20, h21, h22, h23⟩ hb2 hF
        (try simp only [List.nil_append, List.append_nil, List.cons_append] at hF)
        simp only [puts, putD, Act.put, List.setIfInBounds_toArray, List.set_cons_zero, List.set_cons_succ]
        clear hF
        have k2_b2_0 := bcs hb2 k1_b2_0
        have g2_b2_0 := bfs hb2 k1_b2_0 g1_b2_0
        have k2_b2_1 := bcs hb2 k1_b2_1
        have g2_b2_1 := bfs hb2 k1_b2_1 g1_b2_1
        have k2_b2_2 := bcs hb2 k1_b2_2
        have g2_b2_2 := bfs hb2 k1_b2_2 g1_b2_2
        have k2_b2_3 := bcs hb2 k1_b2_3
        have g2_b2_3 := bfs hb2 k1_b2_3 g1_b2_3
        have k2_b3_0 := bcs hb2 k1_b3_0
        have g2_b3_0 := bfs hb2 k1_b3_0 g1_b3_0
        have k2_b3_1 := bcs hb2 k1_b3_1
        have g2_b3_1 := bfs hb2 k1_b3_1 g1_b3_1
        have k2_b3_2 := bcs hb2 k1_b3_2
        have g2_b3_2 := bfs hb2 k1_b3_2 g1_b3_2
        have k2_b3_3 := bcs hb2 k1_b3_3
        have g2_b3_3 := bfs hb2 k1_b3_3 g1_b3_3
        have k2_b4_0 := bcs hb2 k1_b4_0
        have g2_b4_0 := bfs hb2 k1_b4_0 g1_b4_0
        have k2_b4_1 := bcs hb2 k1_b4_1
        have g2_b4_1 := bfs hb2 k1_b4_1 g1_b4_1
        have k2_b4_2 := bcs hb2 k1_b4_2
        have g2_b4_2 := bfs hb2 k1_b4_2 g1_b4_2
        have k2_b4_3 := bcs hb2 k1_b4_3
        have g2_b4_3 := bfs hb2 k1_b4_3 g1_b4_3
        clear h0 h1 h2 h3 h4 h5 h6 h7 h8 h9 h10 h11 h12 h13 h14 h15 h16 h17 h18 h19 h20 h21 h22 h23
        have B2 := bel_step B1 hb2
        have z2 := Nat.le_trans z1 hb2.size
        clear hb2
        (try clear B1)
        (try clear z1)
        (try clear k1_b2_0)
        (try clear g1_b2_0)
        (try clear k1_b2_1)
        (try clear g1_b2_1)
        (try clear k1_b2_2)
        (try clear g1_b2_2)
        (try clear k1_b2_3)
        (try clear g1_b2_3)
        (try clear k1_b3_0)
        (try clear g1_b3_0)
        (try clear k1_b3_1)
        (try clear g1_b3_1)
        (try clear k1_b3_2)
        (try clear g1_b3_2)
        (try clear k1_b3_3)
        (try clear g1_b3_3)
        (try clear k1_b4_0)
        (try clear g1_b4_0)
        (try clear k1_b4_1)
        (try clear g1_b4_1)
        (try clear k1_b4_2)
        (try clear g1_b4_2)
        (try clear k1_b4_3)
        (try clear g1_b4_3)
        (try clear q1_b2)
        (try clear x1_b2)
        (try clear y1_b2)
        (try clear q1_b3)
        (try clear x1_b3)
        (try clear y1_b3)
        (try clear q1_b4)
        (try clear x1_b4)
        (try clear y1_b4)
        have q2_b2 : w.heap.size < w2.heap.size := qlt k2_b2_0
        have x2_b2 : ¬ w.heap.size = w2.heap.size := qne k2_b2_0
        have y2_b2 : ¬ w2.heap.size = w.heap.size := fun h => qne k2_b2_0 h.symm
        have q2_b3 : w.heap.size + 1 < w2.heap.size := qlt k2_b3_0
        have x2_b3 : ¬ w.heap.size + 1 = w2.heap.size := qne k2_b3_0
        have y2_b3 : ¬ w2.heap.size = w.heap.size + 1 := fun h => qne k2_b3_0 h.symm
        have q2_b4 : w.heap.size + 1 + 1 < w2.heap.size := qlt k2_b4_0
        have x2_b4 : ¬ w.heap.size + 1 + 1 = w2.heap.size := qne k2_b4_0
        have y2_b4 : ¬ w2.heap.size = w.heap.size + 1 + 1 := fun h => qne k2_b4_0 h.symm
        go_wp2
        refine bodyPost_ret (v := .agg #[.int .i64 a, .int .i64 b, .int .i64 c, .int .i64 d]) (by simp [results, Try.results52, go_sem, *]) rfl ⟨rfl, ?_⟩
        repeat (first | with_reducible exact Below.refl _ _ | with_reducible exact B2 | with_reducible apply below_drewN | with_reducible apply Below.drew | (with_reducible refine Below.alloc ?_ (by first | (simp; done) | (simp; omega) | omega) _) | (with_reducible refine Below.setCell ?_ (by first | (simp; done) | (simp; omega) | omega) _))
      have p2 : (c == 0) = false := by simp; omega
      have p0 : (a == 0) = true := by simpa using z0
      have p1 : (b == 0) = true := by simpa using z1
      clear z0 z1
      clear k
      go_enter Try.func52, Try.ntmps52
      go_wp2
      refine wp_region_env (fun w' => w'.cell? ⟨w.heap.size, 0, none⟩ = some (.int .i64 a) ∧ w'.frozen? ⟨w.heap.size, 0, none⟩ = false ∧ w'.cell? ⟨w.heap.size, 1, none⟩ = some (.int .i64 b) ∧ w'.frozen? ⟨w.heap.size, 1, none⟩ = false ∧ w'.cell? ⟨w.heap.size, 2, none⟩ = some (.int .i64 c) ∧ w'.frozen? ⟨w.heap.size, 2, none⟩ = false ∧ w'.cell? ⟨w.heap.size, 3, none⟩ = some (.int .i64 d) ∧ w'.frozen? ⟨w.heap.size, 3, none⟩ = false ∧ w'.cell? ⟨w.heap.size + 1, 0, none⟩ = some (.int .i64 s) ∧ w'.frozen? ⟨w.heap.size + 1, 0, none⟩ = false ∧ w'.cell? ⟨w.heap.size + 1, 1, none⟩ = some (.int .i64 t) ∧ w'.frozen? ⟨w.heap.size + 1, 1, none⟩ = false ∧ w'.cell? ⟨w.heap.size + 1, 2, none⟩ = some (.int .i64 u) ∧ w'.frozen? ⟨w.heap.size + 1, 2, none⟩ = false ∧ w'.cell? ⟨w.heap.size + 1, 3, none⟩ = some (.int .i64 v) ∧ w'.frozen? ⟨w.heap.size + 1, 3, none⟩ = false ∧ w'.cell? ⟨w.heap.size + 1 + 1, 0, none⟩ = some (.int .i64 0) ∧ w'.frozen? ⟨w.heap.size + 1 + 1, 0, none⟩ = false ∧ w'.cell? ⟨w.heap.size + 1 + 1, 1, none⟩ = some (.int .i64 0) ∧ w'.frozen? ⟨w.heap.size + 1 + 1, 1, none⟩ = false ∧ w'.cell? ⟨w.heap.size + 1 + 1, 2, none⟩ = some (.int .i64 0) ∧ w'.frozen? ⟨w.heap.size + 1 + 1, 2, none⟩ = false ∧ w'.cell? ⟨w.heap.size + 1 + 1, 3, none⟩ = some (.int .i64 0) ∧ w'.frozen? ⟨w.heap.size + 1 + 1, 3, none⟩ = false) (fun W => W.cell? ⟨w.heap.size, 0, none⟩ = some (.int .i64 a) ∧ W.frozen? ⟨w.heap.size, 0, none⟩ = false ∧ W.cell? ⟨w.heap.size, 1, none⟩ = some (.int .i64 b) ∧ W.frozen? ⟨w.heap.size, 1, none⟩ = false ∧ W.cell? ⟨w.heap.size, 2, none⟩ = some (.int .i64 c) ∧ W.frozen? ⟨w.heap.size, 2, none⟩ = false ∧ W.cell? ⟨w.heap.size, 3, none⟩ = some (.int .i64 d) ∧ W.frozen? ⟨w.heap.size, 3, none⟩ = false ∧ W.cell? ⟨w.heap.size + 1, 0, none⟩ = some (.int .i64 s) ∧ W.frozen? ⟨w.heap.size + 1, 0, none⟩ = false ∧ W.cell? ⟨w.heap.size + 1, 1, none⟩ = some (.int .i64 t) ∧ W.frozen? ⟨w.heap.size + 1, 1, none⟩ = false ∧ W.cell? ⟨w.heap.size + 1, 2, none⟩ = some (.int .i64 u) ∧ W.frozen? ⟨w.heap.size + 1, 2, none⟩ = false ∧ W.cell? ⟨w.heap.size + 1, 3, none⟩ = some (.int .i64 v) ∧ W.frozen? ⟨w.heap.size + 1, 3, none⟩ = false ∧ W.cell? ⟨w.heap.size + 1 + 1, 0, none⟩ = some (.int .i64 0) ∧ W.frozen? ⟨w.heap.size + 1 + 1, 0, none⟩ = false ∧ W.cell? ⟨w.heap.size + 1 + 1, 1, none⟩ = some (.int .i64 0) ∧ W.frozen? ⟨w.heap.size + 1 + 1, 1, none⟩ = false ∧ W.cell? ⟨w.heap.size + 1 + 1, 2, none⟩ = some (.int .i64 0) ∧ W.frozen? ⟨w.heap.size + 1 + 1, 2, none⟩ = false ∧ W.cell? ⟨w.heap.size + 1 + 1, 3, none⟩ = some (.int .i64 0) ∧ W.frozen? ⟨w.heap.size + 1 + 1, 3, none⟩ = false ∧ Below w.heap.size w W ∧ w.heap.size + 1 + 1 + 1 ≤ W.heap.size) 4 40 [.val (.agg #[.int .i64 a, .int .i64 b, .int .i64 c, .int .i64 d]), .call 48 #[.agg #[.int .i64 a, .int .i64 b, .int .i64 c, .int .i64 d]] (.agg #[.int .i64 a, .int .i64 b, .int .i64 c, .int .i64 d]), .val (.agg #[.int .i64 s, .int .i64 t, .int .i64 u, .int .i64 v]), .call 48 #[.agg #[.int .i64 s, .int .i64 t, .int .i64 u, .int .i64 v]] (.agg #[.int .i64 0, .int .i64 0, .int .i64 0, .int .i64 0])] (by kernel_rfl) (by kernel_rfl) rfl (by kernel_rfl) (by rintro w1 w2 ⟨h0, h1, h2, h3, h4, h5, h6, h7, h8, h9, h10, h11, h12, h13, h14, h15, h16, h17, h18, h19, h20, h21, h22, h23⟩ hb; exact ⟨bcs hb h0, bfs hb h0 h1, bcs hb h2, bfs hb h2 h3, bcs hb h4, bfs hb h4 h5, bcs hb h6, bfs hb h6 h7, bcs hb h8, bfs hb h8 h9, bcs hb h10, bfs hb h10 h11, bcs hb h12, bfs hb h12 h13, bcs hb h14, bfs hb h14 h15, bcs hb h16, bfs hb h16 h17, bcs hb h18, bfs hb h18 h19, bcs hb h20, bfs hb h20 h21, bcs hb h22, bfs hb h22 h23⟩) ⟨by first | with_reducible assumption | go_simp, by first | with_reducible assumption | go_simp, by first | with_reducible assumption | go_simp, by first | with_reducible assumption | go_simp, by first | with_reducible assumption | go_simp, by first | with_reducible assumption | go_simp, by first | with_reducible assumption | go_simp, by first | with_reducible assumption | go_simp, by first | with_reducible assumption | go_simp, by first | with_reducible assumption | go_simp, by first | with_reducible assumption | go_simp, by first | with_reducible assumption | go_simp, by first | with_reducible assumption | go_simp, by first | with_reducible assumption | go_simp, by first | with_reducible assumption | go_simp, by first | with_reducible assumption | go_simp, by first | with_reducible assumption | go_simp, by first | with_reducible assumption | go_simp, by first | with_reducible assumption | go_simp, by first | with_reducible assumption | go_simp, by first | with_reducible assumption | go_simp, by first | with_reducible assumption | go_simp, by first | with_reducible assumption | go_simp, by first | with_reducible assumption | go_simp, by repeat (first | with_reducible exact Below.refl _ _ | fail | with_reducible apply below_drewN | with_reducible apply Below.drew | (with_reducible refine Below.alloc ?_ (by first | (simp; done) | (simp; omega) | omega) _) | (with_reducible refine Below.setCell ?_ (by first | (simp; done) | (simp; omega) | omega) _)), by first | with_reducible assumption | (simp; done) | (simp; omega)⟩ ?_ ?_
      · rintro W ⟨k1_b2_0, g1_b2_0, k1_b2_1, g1_b2_1, k1_b2_2, g1_b2_2, k1_b2_3, g1_b2_3, k1_b3_0, g1_b3_0, k1_b3_1, g1_b3_1, k1_b3_2, g1_b3_2, k1_b3_3, g1_b3_3, k1_b4_0, g1_b4_0, k1_b4_1, g1_b4_1, k1_b4_2, g1_b4_2, k1_b4_3, g1_b4_3, B1, z1⟩; exact ⟨k1_b2_0, g1_b2_0, k1_b2_1, g1_b2_1, k1_b2_2, g1_b2_2, k1_b2_3, g1_b2_3, k1_b3_0, g1_b3_0, k1_b3_1, g1_b3_1, k1_b3_2, g1_b3_2, k1_b3_3, g1_b3_3, k1_b4_0, g1_b4_0, k1_b4_1, g1_b4_1, k1_b4_2, g1_b4_2, k1_b4_3, g1_b4_3⟩
      rintro w1 ⟨k1_b2_0, g1_b2_0, k1_b2_1, g1_b2_1, k1_b2_2, g1_b2_2, k1_b2_3, g1_b2_3, k1_b3_0, g1_b3_0, k1_b3_1, g1_b3_1, k1_b3_2, g1_b3_2, k1_b3_3, g1_b3_3, k1_b4_0, g1_b4_0, k1_b4_1, g1_b4_1, k1_b4_2, g1_b4_2, k1_b4_3, g1_b4_3, B1, z1⟩ gg
      simp only [List.take_succ_cons, List.take_zero, List.drop_succ_cons, List.drop_zero, List.cons_append, List.nil_append, List.append_nil]
      refine obe_val (by rfl) ?_ ?_
      · clear k1_b2_0 g1_b2_0 k1_b2_1 g1_b2_1 k1_b2_2 g1_b2_2 k1_b2_3 g1_b2_3 k1_b3_0 g1_b3_0 k1_b3_1 g1_b3_1 k1_b3_2 g1_b3_2 k1_b3_3 g1_b3_3 k1_b4_0 g1_b4_0 k1_b4_1 g1_b4_1 k1_b4_2 g1_b4_2 k1_b4_3 g1_b4_3 B1 z1; intro f hf; have u2 : f 2 = (.pointer (some ⟨w.heap.size, 0, none⟩)) := (by rw [← hf]; rfl); clear hf; rintro w' ⟨h0, h1, h2, h3, h4, h5, h6, h7, h8, h9, h10, h11, h12, h13, h14, h15, h16, h17, h18, h19, h20, h21, h22, h23⟩; go_simp; try exact IntWalk.i64_in _ (by omega)
      refine obe_call (by rfl) ?_ ?_ ?_
      · clear k1_b2_0 g1_b2_0 k1_b2_1 g1_b2_1 k1_b2_2 g1_b2_2 k1_b2_3 g1_b2_3 k1_b3_0 g1_b3_0 k1_b3_1 g1_b3_1 k1_b3_2 g1_b3_2 k1_b3_3 g1_b3_3 k1_b4_0 g1_b4_0 k1_b4_1 g1_b4_1 k1_b4_2 g1_b4_2 k1_b4_3 g1_b4_3 B1 z1; intro f hf; have u5 : f 5 = (.agg #[.int .i64 a, .int .i64 b, .int .i64 c, .int .i64 d]) := (by rw [← hf]; rfl); clear hf; intro w' _; simp only [execOp, resolve, invoke, rhoF_tmp, rhoF_func, rhoF_const, u5, List.map_toArray, List.map_cons, List.map_nil]; go_simp
      · clear k1_b2_0 g1_b2_0 k1_b2_1 g1_b2_1 k1_b2_2 g1_b2_2 k1_b2_3 g1_b2_3 k1_b3_0 g1_b3_0 k1_b3_1 g1_b3_1 k1_b3_2 g1_b3_2 k1_b3_3 g1_b3_3 k1_b4_0 g1_b4_0 k1_b4_1 g1_b4_1 k1_b4_2 g1_b4_2 k1_b4_3 g1_b4_3 B1 z1; rintro w' ⟨h0, h1, h2, h3, h4, h5, h6, h7, h8, h9, h10, h11, h12, h13, h14, h15, h16, h17, h18, h19, h20, h21, h22, h23⟩; exact c1 _
      refine obe_val (by rfl) ?_ ?_
      · clear k1_b2_0 g1_b2_0 k1_b2_1 g1_b2_1 k1_b2_2 g1_b2_2 k1_b2_3 g1_b2_3 k1_b3_0 g1_b3_0 k1_b3_1 g1_b3_1 k1_b3_2 g1_b3_2 k1_b3_3 g1_b3_3 k1_b4_0 g1_b4_0 k1_b4_1 g1_b4_1 k1_b4_2 g1_b4_2 k1_b4_3 g1_b4_3 B1 z1; intro f hf; have u3 : f 3 = (.pointer (some ⟨w.heap.size + 1, 0, none⟩)) := (by rw [← hf]; rfl); clear hf; rintro w' ⟨h0, h1, h2, h3, h4, h5, h6, h7, h8, h9, h10, h11, h12, h13, h14, h15, h16, h17, h18, h19, h20, h21, h22, h23⟩; go_simp; try exact IntWalk.i64_in _ (by omega)
      refine obe_call (by rfl) ?_ ?_ ?_
      · clear k1_b2_0 g1_b2_0 k1_b2_1 g1_b2_1 k1_b2_2 g1_b2_2 k1_b2_3 g1_b2_3 k1_b3_0 g1_b3_0 k1_b3_1 g1_b3_1 k1_b3_2 g1_b3_2 k1_b3_3 g1_b3_3 k1_b4_0 g1_b4_0 k1_b4_1 g1_b4_1 k1_b4_2 g1_b4_2 k1_b4_3 g1_b4_3 B1 z1; intro f hf; have u7 : f 7 = (.agg #[.int .i64 s, .int .i64 t, .int .i64 u, .int .i64 v]) := (by rw [← hf]; rfl); clear hf; intro w' _; simp only [execOp, resolve, invoke, rhoF_tmp, rhoF_func, rhoF_const, u7, List.map_toArray, List.map_cons, List.map_nil]; go_simp
      · clear k1_b2_0 g1_b2_0 k1_b2_1 g1_b2_1 k1_b2_2 g1_b2_2 k1_b2_3 g1_b2_3 k1_b3_0 g1_b3_0 k1_b3_1 g1_b3_1 k1_b3_2 g1_b3_2 k1_b3_3 g1_b3_3 k1_b4_0 g1_b4_0 k1_b4_1 g1_b4_1 k1_b4_2 g1_b4_2 k1_b4_3 g1_b4_3 B1 z1; rintro w' ⟨h0, h1, h2, h3, h4, h5, h6, h7, h8, h9, h10, h11, h12, h13, h14, h15, h16, h17, h18, h19, h20, h21, h22, h23⟩; exact c2 _
      refine obe_nil ?_
      rintro w2 ⟨h0, h1, h2, h3, h4, h5, h6, h7, h8, h9, h10, h11, h12, h13, h14, h15, h16, h17, h18, h19, h20, h21, h22, h23⟩ hb2 hF
      (try simp only [List.nil_append, List.append_nil, List.cons_append] at hF)
      simp only [puts, putD, Act.put, List.setIfInBounds_toArray, List.set_cons_zero, List.set_cons_succ]
      clear hF
      have k2_b2_0 := bcs hb2 k1_b2_0
      have g2_b2_0 := bfs hb2 k1_b2_0 g1_b2_0
      have k2_b2_1 := bcs hb2 k1_b2_1
      have g2_b2_1 := bfs hb2 k1_b2_1 g1_b2_1
      have k2_b2_2 := bcs hb2 k1_b2_2
      have g2_b2_2 := bfs hb2 k1_b2_2 g1_b2_2
      have k2_b2_3 := bcs hb2 k1_b2_3
      have g2_b2_3 := bfs hb2 k1_b2_3 g1_b2_3
      have k2_b3_0 := bcs hb2 k1_b3_0
      have g2_b3_0 := bfs hb2 k1_b3_0 g1_b3_0
      have k2_b3_1 := bcs hb2 k1_b3_1
      have g2_b3_1 := bfs hb2 k1_b3_1 g1_b3_1
      have k2_b3_2 := bcs hb2 k1_b3_2
      have g2_b3_2 := bfs hb2 k1_b3_2 g1_b3_2
      have k2_b3_3 := bcs hb2 k1_b3_3
      have g2_b3_3 := bfs hb2 k1_b3_3 g1_b3_3
      have k2_b4_0 := bcs hb2 k1_b4_0
      have g2_b4_0 := bfs hb2 k1_b4_0 g1_b4_0
      have k2_b4_1 := bcs hb2 k1_b4_1
      have g2_b4_1 := bfs hb2 k1_b4_1 g1_b4_1
      have k2_b4_2 := bcs hb2 k1_b4_2
      have g2_b4_2 := bfs hb2 k1_b4_2 g1_b4_2
      have k2_b4_3 := bcs hb2 k1_b4_3
      have g2_b4_3 := bfs hb2 k1_b4_3 g1_b4_3
      clear h0 h1 h2 h3 h4 h5 h6 h7 h8 h9 h10 h11 h12 h13 h14 h15 h16 h17 h18 h19 h20 h21 h22 h23
      have B2 := bel_step B1 hb2
      have z2 := Nat.le_trans z1 hb2.size
      clear hb2
      (try clear B1)
      (try clear z1)
      (try clear k1_b2_0)
      (try clear g1_b2_0)
      (try clear k1_b2_1)
      (try clear g1_b2_1)
      (try clear k1_b2_2)
      (try clear g1_b2_2)
      (try clear k1_b2_3)
      (try clear g1_b2_3)
      (try clear k1_b3_0)
      (try clear g1_b3_0)
      (try clear k1_b3_1)
      (try clear g1_b3_1)
      (try clear k1_b3_2)
      (try clear g1_b3_2)
      (try clear k1_b3_3)
      (try clear g1_b3_3)
      (try clear k1_b4_0)
      (try clear g1_b4_0)
      (try clear k1_b4_1)
      (try clear g1_b4_1)
      (try clear k1_b4_2)
      (try clear g1_b4_2)
      (try clear k1_b4_3)
      (try clear g1_b4_3)
      (try clear q1_b2)
      (try clear x1_b2)
      (try clear y1_b2)
      (try clear q1_b3)
      (try clear x1_b3)
      (try clear y1_b3)
      (try clear q1_b4)
      (try clear x1_b4)
      (try clear y1_b4)
      have q2_b2 : w.heap.size < w2.heap.size := qlt k2_b2_0
      have x2_b2 : ¬ w.heap.size = w2.heap.size := qne k2_b2_0
      have y2_b2 : ¬ w2.heap.size = w.heap.size := fun h => qne k2_b2_0 h.symm
      have q2_b3 : w.heap.size + 1 < w2.heap.size := qlt k2_b3_0
      have x2_b3 : ¬ w.heap.size + 1 = w2.heap.size := qne k2_b3_0
      have y2_b3 : ¬ w2.heap.size = w.heap.size + 1 := fun h => qne k2_b3_0 h.symm
      have q2_b4 : w.heap.size + 1 + 1 < w2.heap.size := qlt k2_b4_0
      have x2_b4 : ¬ w.heap.size + 1 + 1 = w2.heap.size := qne k2_b4_0
      have y2_b4 : ¬ w2.heap.size = w.heap.size + 1 + 1 := fun h => qne k2_b4_0 h.symm
      go_wp2
      refine bodyPost_ret (v := .agg #[.int .i64 a, .int .i64 b, .int .i64 c, .int .i64 d]) (by simp [results, Try.results52, go_sem, *]) rfl ⟨rfl, ?_⟩
      repeat (first | with_reducible exact Below.refl _ _ | with_reducible exact B2 | with_reducible apply below_drewN | with_reducible apply Below.drew | (with_reducible refine Below.alloc ?_ (by first | (simp; done) | (simp; omega) | omega) _) | (with_reducible refine Below.setCell ?_ (by first | (simp; done) | (simp; omega) | omega) _))
    | false =>
      have k2 := (eR_false s t u v).1 es
      rw [es] at c2
      simp only [cn_false] at c2
      simp only [uLo, uHi, Bool.false_eq_true, if_false]
      clear ea es
      obtain ⟨m0, j0⟩ : ∃ x, min a s = x := ⟨_, rfl⟩
      have g0 : (if s < a then s else a) = m0 := by rw [← j0]; omega
      obtain ⟨m1, j1⟩ : ∃ x, min b t = x := ⟨_, rfl⟩
      have g1 : (if t < b then t else b) = m1 := by rw [← j1]; omega
      obtain ⟨m2, j2⟩ : ∃ x, max c u = x := ⟨_, rfl⟩
      have g2 : (if c < u then u else c) = m2 := by rw [← j2]; omega
      obtain ⟨m3, j3⟩ : ∃ x, max d v = x := ⟨_, rfl⟩
      have g3 : (if d < v then v else d) = m3 := by rw [← j3]; omega
      rw [j0, j1, j2, j3]
      by_cases z0 : a = 0
      case neg =>
        have p0 : (a == 0) = false := by simpa using z0
        clear z0
        by_cases z0 : s = 0
        case neg =>
          have q0 : (s == 0) = false := by simpa using z0
          clear z0
          clear k k2
          go_enter Try.func52, Try.ntmps52
          go_wp2
          refine wp_region_env (fun w' => w'.cell? ⟨w.heap.size, 0, none⟩ = some (.int .i64 a) ∧ w'.frozen? ⟨w.heap.size, 0, none⟩ = false ∧ w'.cell? ⟨w.heap.size, 1, none⟩ = some (.int .i64 b) ∧ w'.frozen? ⟨w.heap.size, 1, none⟩ = false ∧ w'.cell? ⟨w.heap.size, 2, none⟩ = some (.int .i64 c) ∧ w'.frozen? ⟨w.heap.size, 2, none⟩ = false ∧ w'.cell? ⟨w.heap.size, 3, none⟩ = some (.int .i64 d) ∧ w'.frozen? ⟨w.heap.size, 3, none⟩ = false ∧ w'.cell? ⟨w.heap.size + 1, 0, none⟩ = some (.int .i64 s) ∧ w'.frozen? ⟨w.heap.size + 1, 0, none⟩ = false ∧ w'.cell? ⟨w.heap.size + 1, 1, none⟩ = some (.int .i64 t) ∧ w'.frozen? ⟨w.heap.size + 1, 1, none⟩ = false ∧ w'.cell? ⟨w.heap.size + 1, 2, none⟩ = some (.int .i64 u) ∧ w'.frozen? ⟨w.heap.size + 1, 2, none⟩ = false ∧ w'.cell? ⟨w.heap.size + 1, 3, none⟩ = some (.int .i64 v) ∧ w'.frozen? ⟨w.heap.size + 1, 3, none⟩ = false ∧ w'.cell? ⟨w.heap.size + 1 + 1, 0, none⟩ = some (.int .i64 0) ∧ w'.frozen? ⟨w.heap.size + 1 + 1, 0, none⟩ = false ∧ w'.cell? ⟨w.heap.size + 1 + 1, 1, none⟩ = some (.int .i64 0) ∧ w'.frozen? ⟨w.heap.size + 1 + 1, 1, none⟩ = false ∧ w'.cell? ⟨w.heap.size + 1 + 1, 2, none⟩ = some (.int .i64 0) ∧ w'.frozen? ⟨w.heap.size + 1 + 1, 2, none⟩ = false ∧ w'.cell? ⟨w.heap.size + 1 + 1, 3, none⟩ = some (.int .i64 0) ∧ w'.frozen? ⟨w.heap.size + 1 + 1, 3, none⟩ = false) (fun W => W.cell? ⟨w.heap.size, 0, none⟩ = some (.int .i64 a) ∧ W.frozen? ⟨w.heap.size, 0, none⟩ = false ∧ W.cell? ⟨w.heap.size, 1, none⟩ = some (.int .i64 b) ∧ W.frozen? ⟨w.heap.size, 1, none⟩ = false ∧ W.cell? ⟨w.heap.size, 2, none⟩ = some (.int .i64 c) ∧ W.frozen? ⟨w.heap.size, 2, none⟩ = false ∧ W.cell? ⟨w.heap.size, 3, none⟩ = some (.int .i64 d) ∧ W.frozen? ⟨w.heap.size, 3, none⟩ = false ∧ W.cell? ⟨w.heap.size + 1, 0, none⟩ = some (.int .i64 s) ∧ W.frozen? ⟨w.heap.size + 1, 0, none⟩ = false ∧ W.cell? ⟨w.heap.size + 1, 1, none⟩ = some (.int .i64 t) ∧ W.frozen? ⟨w.heap.size + 1, 1, none⟩ = false ∧ W.cell? ⟨w.heap.size + 1, 2, none⟩ = some (.int .i64 u) ∧ W.frozen? ⟨w.heap.size + 1, 2, none⟩ = false ∧ W.cell? ⟨w.heap.size + 1, 3, none⟩ = some (.int .i64 v) ∧ W.frozen? ⟨w.heap.size + 1, 3, none⟩ = false ∧ W.cell? ⟨w.heap.size + 1 + 1, 0, none⟩ = some (.int .i64 0) ∧ W.frozen? ⟨w.heap.size + 1 + 1, 0, none⟩ = false ∧ W.cell? ⟨w.heap.size + 1 + 1, 1, none⟩ = some (.int .i64 0) ∧ W.frozen? ⟨w.heap.size + 1 + 1, 1, none⟩ = false ∧ W.cell? ⟨w.heap.size + 1 + 1, 2, none⟩ = some (.int .i64 0) ∧ W.frozen? ⟨w.heap.size + 1 + 1, 2, none⟩ = false ∧ W.cell? ⟨w.heap.size + 1 + 1, 3, none⟩ = some (.int .i64 0) ∧ W.frozen? ⟨w.heap.size + 1 + 1, 3, none⟩ = false ∧ Below w.heap.size w W ∧ w.heap.size + 1 + 1 + 1 ≤ W.heap.size) 4 40 [.val (.agg #[.int .i64 a, .int .i64 b, .int .i64 c, .int .i64 d]), .call 48 #[.agg #[.int .i64 a, .int .i64 b, .int .i64 c, .int .i64 d]] (.agg #[.int .i64 a, .int .i64 b, .int .i64 c, .int .i64 d]), .val (.agg #[.int .i64 s, .int .i64 t, .int .i64 u, .int .i64 v]), .call 48 #[.agg #[.int .i64 s, .int .i64 t, .int .i64 u, .int .i64 v]] (.agg #[.int .i64 s, .int .i64 t, .int .i64 u, .int .i64 v])] (by kernel_rfl) (by kernel_rfl) rfl (by kernel_rfl) (by rintro w1 w2 ⟨h0, h1, h2, h3, h4, h5, h6, h7, h8, h9, h10, h11, h12, h13, h14, h15, h16, h17, h18, h19, h20, h21, h22, h23⟩ hb; exact ⟨bcs hb h0, bfs hb h0 h1, bcs hb h2, bfs hb h2 h3, bcs hb h4, bfs hb h4 h5, bcs hb h6, bfs hb h6 h7, bcs hb h8, bfs hb h8 h9, bcs hb h10, bfs hb h10 h11, bcs hb h12, bfs hb h12 h13, bcs hb h14, bfs hb h14 h15, bcs hb h16, bfs hb h16 h17, bcs hb h18, bfs hb h18 h19, bcs hb h20, bfs hb h20 h21, bcs hb h22, bfs hb h22 h23⟩) ⟨by first | with_reducible assumption | go_simp, by first | with_reducible assumption | go_simp, by first | with_reducible assumption | go_simp, by first | with_reducible assumption | go_simp, by first | with_reducible assumption | go_simp, by first | with_reducible assumption | go_simp, by first | with_reducible assumption | go_simp, by first | with_reducible assumption | go_simp, by first | with_reducible assumption | go_simp, by first | with_reducible assumption | go_simp, by first | with_reducible assumption | go_simp, by first | with_reducible assumption | go_simp, by first | with_reducible assumption | go_simp, by first | with_reducible assumption | go_simp, by first | with_reducible assumption | go_simp, by first | with_reducible assumption | go_simp, by first | with_reducible assumption | go_simp, by first | with_reducible assumption | go_simp, by first | with_reducible assumption | go_simp, by first | with_reducible assumption | go_simp, by first | with_reducible assumption | go_simp, by first | with_reducible assumption | go_simp, by first | with_reducible assumption | go_simp, by first | with_reducible assumption | go_simp, by repeat (first | with_reducible exact Below.refl _ _ | fail | with_reducible apply below_drewN | with_reducible apply Below.drew | (with_reducible refine Below.alloc ?_ (by first | (simp; done) | (simp; omega) | omega) _) | (with_reducible refine Below.setCell ?_ (by first | (simp; done) | (simp; omega) | omega) _)), by first | with_reducible assumption | (simp; done) | (simp; omega)⟩ ?_ ?_
          · rintro W ⟨k1_b2_0, g1_b2_0, k1_b2_1, g1_b2_1, k1_b2_2, g1_b2_2, k1_b2_3, g1_b2_3, k1_b3_0, g1_b3_0, k1_b3_1, g1_b3_1, k1_b3_2, g1_b3_2, k1_b3_3, g1_b3_3, k1_b4_0, g1_b4_0, k1_b4_1, g1_b4_1, k1_b4_2, g1_b4_2, k1_b4_3, g1_b4_3, B1, z1⟩; exact ⟨k1_b2_0, g1_b2_0, k1_b2_1, g1_b2_1, k1_b2_2, g1_b2_2, k1_b2_3, g1_b2_3, k1_b3_0, g1_b3_0, k1_b3_1, g1_b3_1, k1_b3_2, g1_b3_2, k1_b3_3, g1_b3_3, k1_b4_0, g1_b4_0, k1_b4_1, g1_b4_1, k1_b4_2, g1_b4_2, k1_b4_3, g1_b4_3⟩
          rintro w1 ⟨k1_b2_0, g1_b2_0, k1_b2_1, g1_b2_1, k1_b2_2, g1_b2_2, k1_b2_3, g1_b2_3, k1_b3_0, g1_b3_0, k1_b3_1, g1_b3_1, k1_b3_2, g1_b3_2, k1_b3_3, g1_b3_3, k1_b4_0, g1_b4_0, k1_b4_1, g1_b4_1, k1_b4_2, g1_b4_2, k1_b4_3, g1_b4_3, B1, z1⟩ gg
          simp only [List.take_succ_cons, List.take_zero, List.drop_succ_cons, List.drop_zero, List.cons_append, List.nil_append, List.append_nil]
          refine obe_val (by rfl) ?_ ?_
          · clear k1_b2_0 g1_b2_0 k1_b2_1 g1_b2_1 k1_b2_2 g1_b2_2 k1_b2_3 g1_b2_3 k1_b3_0 g1_b3_0 k1_b3_1 g1_b3_1 k1_b3_2 g1_b3_2 k1_b3_3 g1_b3_3 k1_b4_0 g1_b4_0 k1_b4_1 g1_b4_1 k1_b4_2 g1_b4_2 k1_b4_3 g1_b4_3 B1 z1; intro f hf; have u2 : f 2 = (.pointer (some ⟨w.heap.size, 0, none⟩)) := (by rw [← hf]; rfl); clear hf; rintro w' ⟨h0, h1, h2, h3, h4, h5, h6, h7, h8, h9, h10, h11, h12, h13, h14, h15, h16, h17, h18, h19, h20, h21, h22, h23⟩; go_simp; try exact IntWalk.i64_in _ (by omega)
          refine obe_call (by rfl) ?_ ?_ ?_
          · clear k1_b2_0 g1_b2_0 k1_b2_1 g1_b2_1 k1_b2_2 g1_b2_2 k1_b2_3 g1_b2_3 k1_b3_0 g1_b3_0 k1_b3_1 g1_b3_1 k1_b3_2 g1_b3_2 k1_b3_3 g1_b3_3 k1_b4_0 g1_b4_0 k1_b4_1 g1_b4_1 k1_b4_2 g1_b4_2 k1_b4_3 g1_b4_3 B1 z1; intro f hf; have u5 : f 5 = (.agg #[.int .i64 a, .int .i64 b, .int .i64 c, .int .i64 d]) := (by rw [← hf]; rfl); clear hf; intro w' _; simp only [execOp, resolve, invoke, rhoF_tmp, rhoF_func, rhoF_const, u5, List.map_toArray, List.map_cons, List.map_nil]; go_simp
          · clear k1_b2_0 g1_b2_0 k1_b2_1 g1_b2_1 k1_b2_2 g1_b2_2 k1_b2_3 g1_b2_3 k1_b3_0 g1_b3_0 k1_b3_1 g1_b3_1 k1_b3_2 g1_b3_2 k1_b3_3 g1_b3_3 k1_b4_0 g1_b4_0 k1_b4_1 g1_b4_1 k1_b4_2 g1_b4_2 k1_b4_3 g1_b4_3 B1 z1; rintro w' ⟨h0, h1, h2, h3, h4, h5, h6, h7, h8, h9, h10, h11, h12, h13, h14, h15, h16, h17, h18, h19, h20, h21, h22, h23⟩; exact c1 _
          refine obe_val (by rfl) ?_ ?_
          · clear k1_b2_0 g1_b2_0 k1_b2_1 g1_b2_1 k1_b2_2 g1_b2_2 k1_b2_3 g1_b2_3 k1_b3_0 g1_b3_0 k1_b3_1 g1_b3_1 k1_b3_2 g1_b3_2 k1_b3_3 g1_b3_3 k1_b4_0 g1_b4_0 k1_b4_1 g1_b4_1 k1_b4_2 g1_b4_2 k1_b4_3 g1_b4_3 B1 z1; intro f hf; have u3 : f 3 = (.pointer (some ⟨w.heap.size + 1, 0, none⟩)) := (by rw [← hf]; rfl); clear hf; rintro w' ⟨h0, h1, h2, h3, h4, h5, h6, h7, h8, h9, h10, h11, h12, h13, h14, h15, h16, h17, h18, h19, h20, h21, h22, h23⟩; go_simp; try exact IntWalk.i64_in _ (by omega)
          refine obe_call (by rfl) ?_ ?_ ?_
          · clear k1_b2_0 g1_b2_0 k1_b2_1 g1_b2_1 k1_b2_2 g1_b2_2 k1_b2_3 g1_b2_3 k1_b3_0 g1_b3_0 k1_b3_1 g1_b3_1 k1_b3_2 g1_b3_2 k1_b3_3 g1_b3_3 k1_b4_0 g1_b4_0 k1_b4_1 g1_b4_1 k1_b4_2 g1_b4_2 k1_b4_3 g1_b4_3 B1 z1; intro f hf; have u7 : f 7 = (.agg #[.int .i64 s, .int .i64 t, .int .i64 u, .int .i64 v]) := (by rw [← hf]; rfl); clear hf; intro w' _; simp only [execOp, resolve, invoke, rhoF_tmp, rhoF_func, rhoF_const, u7, List.map_toArray, List.map_cons, List.map_nil]; go_simp
          · clear k1_b2_0 g1_b2_0 k1_b2_1 g1_b2_1 k1_b2_2 g1_b2_2 k1_b2_3 g1_b2_3 k1_b3_0 g1_b3_0 k1_b3_1 g1_b3_1 k1_b3_2 g1_b3_2 k1_b3_3 g1_b3_3 k1_b4_0 g1_b4_0 k1_b4_1 g1_b4_1 k1_b4_2 g1_b4_2 k1_b4_3 g1_b4_3 B1 z1; rintro w' ⟨h0, h1, h2, h3, h4, h5, h6, h7, h8, h9, h10, h11, h12, h13, h14, h15, h16, h17, h18, h19, h20, h21, h22, h23⟩; exact c2 _
          refine obe_nil ?_
          rintro w2 ⟨h0, h1, h2, h3, h4, h5, h6, h7, h8, h9, h10, h11, h12, h13, h14, h15, h16, h17, h18, h19, h20, h21, h22, h23⟩ hb2 hF
          (try simp only [List.nil_append, List.append_nil, List.cons_append] at hF)
          simp only [puts, putD, Act.put, List.setIfInBounds_toArray, List.set_cons_zero, List.set_cons_succ]
          clear hF
          have k2_b2_0 := bcs hb2 k1_b2_0
          have g2_b2_0 := bfs hb2 k1_b2_0 g1_b2_0
          have k2_b2_1 := bcs hb2 k1_b2_1
          have g2_b2_1 := bfs hb2 k1_b2_1 g1_b2_1
          have k2_b2_2 := bcs hb2 k1_b2_2
          have g2_b2_2 := bfs hb2 k1_b2_2 g1_b2_2
          have k2_b2_3 := bcs hb2 k1_b2_3
          have g2_b2_3 := bfs hb2 k1_b2_3 g1_b2_3
          have k2_b3_0 := bcs hb2 k1_b3_0
          have g2_b3_0 := bfs hb2 k1_b3_0 g1_b3_0
          have k2_b3_1 := bcs hb2 k1_b3_1
          have g2_b3_1 := bfs hb2 k1_b3_1 g1_b3_1
          have k2_b3_2 := bcs hb2 k1_b3_2
          have g2_b3_2 := bfs hb2 k1_b3_2 g1_b3_2
          have k2_b3_3 := bcs hb2 k1_b3_3
          have g2_b3_3 := bfs hb2 k1_b3_3 g1_b3_3
          have k2_b4_0 := bcs hb2 k1_b4_0
          have g2_b4_0 := bfs hb2 k1_b4_0 g1_b4_0
          have k2_b4_1 := bcs hb2 k1_b4_1
          have g2_b4_1 := bfs hb2 k1_b4_1 g1_b4_1
          have k2_b4_2 := bcs hb2 k1_b4_2
          have g2_b4_2 := bfs hb2 k1_b4_2 g1_b4_2
          have k2_b4_3 := bcs hb2 k1_b4_3
          have g2_b4_3 := bfs hb2 k1_b4_3 g1_b4_3
          clear h0 h1 h2 h3 h4 h5 h6 h7 h8 h9 h10 h11 h12 h13 h14 h15 h16 h17 h18 h19 h20 h21 h22 h23
          have B2 := bel_step B1 hb2
          have z2 := Nat.le_trans z1 hb2.size
          clear hb2
          (try clear B1)
          (try clear z1)
          (try clear k1_b2_0)
          (try clear g1_b2_0)
          (try clear k1_b2_1)
          (try clear g1_b2_1)
          (try clear k1_b2_2)
          (try clear g1_b2_2)
          (try clear k1_b2_3)
          (try clear g1_b2_3)
          (try clear k1_b3_0)
          (try clear g1_b3_0)
          (try clear k1_b3_1)
          (try clear g1_b3_1)
          (try clear k1_b3_2)
          (try clear g1_b3_2)
          (try clear k1_b3_3)
          (try clear g1_b3_3)
          (try clear k1_b4_0)
          (try clear g1_b4_0)
          (try clear k1_b4_1)
          (try clear g1_b4_1)
          (try clear k1_b4_2)
          (try clear g1_b4_2)
          (try clear k1_b4_3)
          (try clear g1_b4_3)
          (try clear q1_b2)
          (try clear x1_b2)
          (try clear y1_b2)
          (try clear q1_b3)
          (try clear x1_b3)
          (try clear y1_b3)
          (try clear q1_b4)
          (try clear x1_b4)
          (try clear y1_b4)
          have q2_b2 : w.heap.size < w2.heap.size := qlt k2_b2_0
          have x2_b2 : ¬ w.heap.size = w2.heap.size := qne k2_b2_0
          have y2_b2 : ¬ w2.heap.size = w.heap.size := fun h => qne k2_b2_0 h.symm
          have q2_b3 : w.heap.size + 1 < w2.heap.size := qlt k2_b3_0
          have x2_b3 : ¬ w.heap.size + 1 = w2.heap.size := qne k2_b3_0
          have y2_b3 : ¬ w2.heap.size = w.heap.size + 1 := fun h => qne k2_b3_0 h.symm
          have q2_b4 : w.heap.size + 1 + 1 < w2.heap.size := qlt k2_b4_0
          have x2_b4 : ¬ w.heap.size + 1 + 1 = w2.heap.size := qne k2_b4_0
          have y2_b4 : ¬ w2.heap.size = w.heap.size + 1 + 1 := fun h => qne k2_b4_0 h.symm
          go_wp2
          refine bodyPost_ret (v := .agg #[.int .i64 m0, .int .i64 m1, .int .i64 m2, .int .i64 m3]) (by simp [results, Try.results52, go_sem, *]) rfl ⟨rfl, ?_⟩
          repeat (first | with_reducible exact Below.refl _ _ | with_reducible exact B2 | with_reducible apply below_drewN | with_reducible apply Below.drew | (with_reducible refine Below.alloc ?_ (by first | (simp; done) | (simp; omega) | omega) _) | (with_reducible refine Below.setCell ?_ (by first | (simp; done) | (simp; omega) | omega) _))
        by_cases z1 : t = 0
        case neg =>
          have q0 : (s == 0) = true := by simpa using z0
          have q1 : (t == 0) = false := by simpa using z1
          clear z0 z1
          clear k k2
          go_enter Try.func52, Try.ntmps52
          go_wp2
          refine wp_region_env (fun w' => w'.cell? ⟨w.heap.size, 0, none⟩ = some (.int .i64 a) ∧ w'.frozen? ⟨w.heap.size, 0, none⟩ = false ∧ w'.cell? ⟨w.heap.size, 1, none⟩ = some (.int .i64 b) ∧ w'.frozen? ⟨w.heap.size, 1, none⟩ = false ∧ w'.cell? ⟨w.heap.size, 2, none⟩ = some (.int .i64 c) ∧ w'.frozen? ⟨w.heap.size, 2, none⟩ = false ∧ w'.cell? ⟨w.heap.size, 3, none⟩ = some (.int .i64 d) ∧ w'.frozen? ⟨w.heap.size, 3, none⟩ = false ∧ w'.cell? ⟨w.heap.size + 1, 0, none⟩ = some (.int .i64 s) ∧ w'.frozen? ⟨w.heap.size + 1, 0, none⟩ = false ∧ w'.cell? ⟨w.heap.size + 1, 1, none⟩ = some (.int .i64 t) ∧ w'.frozen? ⟨w.heap.size + 1, 1, none⟩ = false ∧ w'.cell? ⟨w.heap.size + 1, 2, none⟩ = some (.int .i64 u) ∧ w'.frozen? ⟨w.heap.size + 1, 2, none⟩ = false ∧ w'.cell? ⟨w.heap.size + 1, 3, none⟩ = some (.int .i64 v) ∧ w'.frozen? ⟨w.heap.size + 1, 3, none⟩ = false ∧ w'.cell? ⟨w.heap.size + 1 + 1, 0, none⟩ = some (.int .i64 0) ∧ w'.frozen? ⟨w.heap.size + 1 + 1, 0, none⟩ = false ∧ w'.cell? ⟨w.heap.size + 1 + 1, 1, none⟩ = some (.int .i64 0) ∧ w'.frozen? ⟨w.heap.size + 1 + 1, 1, none⟩ = false ∧ w'.cell? ⟨w.heap.size + 1 + 1, 2, none⟩ = some (.int .i64 0) ∧ w'.frozen? ⟨w.heap.size + 1 + 1, 2, none⟩ = false ∧ w'.cell? ⟨w.heap.size + 1 + 1, 3, none⟩ = some (.int .i64 0) ∧ w'.frozen? ⟨w.heap.size + 1 + 1, 3, none⟩ = false) (fun W => W.cell? ⟨w.heap.size, 0, none⟩ = some (.int .i64 a) ∧ W.frozen? ⟨w.heap.size, 0, none⟩ = false ∧ W.cell? ⟨w.heap.size, 1, none⟩ = some (.int .i64 b) ∧ W.frozen? ⟨w.heap.size, 1, none⟩ = false ∧ W.cell? ⟨w.heap.size, 2, none⟩ = some (.int .i64 c) ∧ W.frozen? ⟨w.heap.size, 2, none⟩ = false ∧ W.cell? ⟨w.heap.size, 3, none⟩ = some (.int .i64 d) ∧ W.frozen? ⟨w.heap.size, 3, none⟩ = false ∧ W.cell? ⟨w.heap.size + 1, 0, none⟩ = some (.int .i64 s) ∧ W.frozen? ⟨w.heap.size + 1, 0, none⟩ = false ∧ W.cell? ⟨w.heap.size + 1, 1, none⟩ = some (.int .i64 t) ∧ W.frozen? ⟨w.heap.size + 1, 1, none⟩ = false ∧ W.cell? ⟨w.heap.size + 1, 2, none⟩ = some (.int .i64 u) ∧ W.frozen? ⟨w.heap.size + 1, 2, none⟩ = false ∧ W.cell? ⟨w.heap.size + 1, 3, none⟩ = some (.int .i64 v) ∧ W.frozen? ⟨w.heap.size + 1, 3, none⟩ = false ∧ W.cell? ⟨w.heap.size + 1 + 1, 0, none⟩ = some (.int .i64 0) ∧ W.frozen? ⟨w.heap.size + 1 + 1, 0, none⟩ = false ∧ W.cell? ⟨w.heap.size + 1 + 1, 1, none⟩ = some (.int .i64 0) ∧ W.frozen? ⟨w.heap.size + 1 + 1, 1, none⟩ = false ∧ W.cell? ⟨w.heap.size + 1 + 1, 2, none⟩ = some (.int .i64 0) ∧ W.frozen? ⟨w.heap.size + 1 + 1, 2, none⟩ = false ∧ W.cell? ⟨w.heap.size + 1 + 1, 3, none⟩ = some (.int .i64 0) ∧ W.frozen? ⟨w.heap.size + 1 + 1, 3, none⟩ = false ∧ Below w.heap.size w W ∧ w.heap.size + 1 + 1 + 1 ≤ W.heap.size) 4 40 [.val (.agg #[.int .i64 a, .int .i64 b, .int .i64 c, .int .i64 d]), .call 48 #[.agg #[.int .i64 a, .int .i64 b, .int .i64 c, .int .i64 d]] (.agg #[.int .i64 a, .int .i64 b, .int .i64 c, .int .i64 d]), .val (.agg #[.int .i64 s, .int .i64 t, .int .i64 u, .int .i64 v]), .call 48 #[.agg #[.int .i64 s, .int .i64 t, .int .i64 u, .int .i64 v]] (.agg #[.int .i64 s, .int .i64 t, .int .i64 u, .int .i64 v])] (by kernel_rfl) (by kernel_rfl) rfl (by kernel_rfl) (by rintro w1 w2 ⟨h0, h1, h2, h3, h4, h5, h6, h7, h8, h9, h10, h11, h12, h13, h14, h15, h16, h17, h18, h19, h20, h21, h22, h23⟩ hb; exact ⟨bcs hb h0, bfs hb h0 h1, bcs hb h2, bfs hb h2 h3, bcs hb h4, bfs hb h4 h5, bcs hb h6, bfs hb h6 h7, bcs hb h8, bfs hb h8 h9, bcs hb h10, bfs hb h10 h11, bcs hb h12, bfs hb h12 h13, bcs hb h14, bfs hb h14 h15, bcs hb h16, bfs hb h16 h17, bcs hb h18, bfs hb h18 h19, bcs hb h20, bfs hb h20 h21, bcs hb h22, bfs hb h22 h23⟩) ⟨by first | with_reducible assumption | go_simp, by first | with_reducible assumption | go_simp, by first | with_reducible assumption | go_simp, by first | with_reducible assumption | go_simp, by first | with_reducible assumption | go_simp, by first | with_reducible assumption | go_simp, by first | with_reducible assumption | go_simp, by first | with_reducible assumption | go_simp, by first | with_reducible assumption | go_simp, by first | with_reducible assumption | go_simp, by first | with_reducible assumption | go_simp, by first | with_reducible assumption | go_simp, by first | with_reducible assumption | go_simp, by first | with_reducible assumption | go_simp, by first | with_reducible assumption | go_simp, by first | with_reducible assumption | go_simp, by first | with_reducible assumption | go_simp, by first | with_reducible assumption | go_simp, by first | with_reducible assumption | go_simp, by first | with_reducible assumption | go_simp, by first | with_reducible assumption | go_simp, by first | with_reducible assumption | go_simp, by first | with_reducible assumption | go_simp, by first | with_reducible assumption | go_simp, by repeat (first | with_reducible exact Below.refl _ _ | fail | with_reducible apply below_drewN | with_reducible apply Below.drew | (with_reducible refine Below.alloc ?_ (by first | (simp; done) | (simp; omega) | omega) _) | (with_reducible refine Below.setCell ?_ (by first | (simp; done) | (simp; omega) | omega) _)), by first | with_reducible assumption | (simp; done) | (simp; omega)⟩ ?_ ?_
          · rintro W ⟨k1_b2_0, g1_b2_0, k1_b2_1, g1_b2_1, k1_b2_2, g1_b2_2, k1_b2_3, g1_b2_3, k1_b3_0, g1_b3_0, k1_b3_1, g1_b3_1, k1_b3_2, g1_b3_2, k1_b3_3, g1_b3_3, k1_b4_0, g1_b4_0, k1_b4_1, g1_b4_1, k1_b4_2, g1_b4_2, k1_b4_3, g1_b4_3, B1, z1⟩; exact ⟨k1_b2_0, g1_b2_0, k1_b2_1, g1_b2_1, k1_b2_2, g1_b2_2, k1_b2_3, g1_b2_3, k1_b3_0, g1_b3_0, k1_b3_1, g1_b3_1, k1_b3_2, g1_b3_2, k1_b3_3, g1_b3_3, k1_b4_0, g1_b4_0, k1_b4_1, g1_b4_1, k1_b4_2, g1_b4_2, k1_b4_3, g1_b4_3⟩
          rintro w1 ⟨k1_b2_0, g1_b2_0, k1_b2_1, g1_b2_1, k1_b2_2, g1_b2_2, k1_b2_3, g1_b2_3, k1_b3_0, g1_b3_0, k1_b3_1, g1_b3_1, k1_b3_2, g1_b3_2, k1_b3_3, g1_b3_3, k1_b4_0, g1_b4_0, k1_b4_1, g1_b4_1, k1_b4_2, g1_b4_2, k1_b4_3, g1_b4_3, B1, z1⟩ gg
          simp only [List.take_succ_cons, List.take_zero, List.drop_succ_cons, List.drop_zero, List.cons_append, List.nil_append, List.append_nil]
          refine obe_val (by rfl) ?_ ?_
          · clear k1_b2_0 g1_b2_0 k1_b2_1 g1_b2_1 k1_b2_2 g1_b2_2 k1_b2_3 g1_b2_3 k1_b3_0 g1_b3_0 k1_b3_1 g1_b3_1 k1_b3_2 g1_b3_2 k1_b3_3 g1_b3_3 k1_b4_0 g1_b4_0 k1_b4_1 g1_b4_1 k1_b4_2 g1_b4_2 k1_b4_3 g1_b4_3 B1 z1; intro f hf; have u2 : f 2 = (.pointer (some ⟨w.heap.size, 0, none⟩)) := (by rw [← hf]; rfl); clear hf; rintro w' ⟨h0, h1, h2, h3, h4, h5, h6, h7, h8, h9, h10, h11, h12, h13, h14, h15, h16, h17, h18, h19, h20, h21, h22, h23⟩; go_simp; try exact IntWalk.i64_in _ (by omega)
          refine obe_call (by rfl) ?_ ?_ ?_
          · clear k1_b2_0 g1_b2_0 k1_b2_1 g1_b2_1 k1_b2_2 g1_b2_2 k1_b2_3 g1_b2_3 k1_b3_0 g1_b3_0 k1_b3_1 g1_b3_1 k1_b3_2 g1_b3_2 k1_b3_3 g1_b3_3 k1_b4_0 g1_b4_0 k1_b4_1 g1_b4_1 k1_b4_2 g1_b4_2 k1_b4_3 g1_b4_3 B1 z1; intro f hf; have u5 : f 5 = (.agg #[.int .i64 a, .int .i64 b, .int .i64 c, .int .i64 d]) := (by rw [← hf]; rfl); clear hf; intro w' _; simp only [execOp, resolve, invoke, rhoF_tmp, rhoF_func, rhoF_const, u5, List.map_toArray, List.map_cons, List.map_nil]; go_simp
          · clear k1_b2_0 g1_b2_0 k1_b2_1 g1_b2_1 k1_b2_2 g1_b2_2 k1_b2_3 g1_b2_3 k1_b3_0 g1_b3_0 k1_b3_1 g1_b3_1 k1_b3_2 g1_b3_2 k1_b3_3 g1_b3_3 k1_b4_0 g1_b4_0 k1_b4_1 g1_b4_1 k1_b4_2 g1_b4_2 k1_b4_3 g1_b4_3 B1 z1; rintro w' ⟨h0, h1, h2, h3, h4, h5, h6, h7, h8, h9, h10, h11, h12, h13, h14, h15, h16, h17, h18, h19, h20, h21, h22, h23⟩; exact c1 _
          refine obe_val (by rfl) ?_ ?_
          · clear k1_b2_0 g1_b2_0 k1_b2_1 g1_b2_1 k1_b2_2 g1_b2_2 k1_b2_3 g1_b2_3 k1_b3_0 g1_b3_0 k1_b3_1 g1_b3_1 k1_b3_2 g1_b3_2 k1_b3_3 g1_b3_3 k1_b4_0 g1_b4_0 k1_b4_1 g1_b4_1 k1_b4_2 g1_b4_2 k1_b4_3 g1_b4_3 B1 z1; intro f hf; have u3 : f 3 = (.pointer (some ⟨w.heap.size + 1, 0, none⟩)) := (by rw [← hf]; rfl); clear hf; rintro w' ⟨h0, h1, h2, h3, h4, h5, h6, h7, h8, h9, h10, h11, h12, h13, h14, h15, h16, h17, h18, h19, h20, h21, h22, h23⟩; go_simp; try exact IntWalk.i64_in _ (by omega)
          refine obe_call (by rfl) ?_ ?_ ?_
          · clear k1_b2_0 g1_b2_0 k1_b2_1 g1_b2_1 k1_b2_2 g1_b2_2 k1_b2_3 g1_b2_3 k1_b3_0 g1_b3_0 k1_b3_1 g1_b3_1 k1_b3_2 g1_b3_2 k1_b3_3 g1_b3_3 k1_b4_0 g1_b4_0 k1_b4_1 g1_b4_1 k1_b4_2 g1_b4_2 k1_b4_3 g1_b4_3 B1 z1; intro f hf; have u7 : f 7 = (.agg #[.int .i64 s, .int .i64 t, .int .i64 u, .int .i64 v]) := (by rw [← hf]; rfl); clear hf; intro w' _; simp only [execOp, resolve, invoke, rhoF_tmp, rhoF_func, rhoF_const, u7, List.map_toArray, List.map_cons, List.map_nil]; go_simp
          · clear k1_b2_0 g1_b2_0 k1_b2_1 g1_b2_1 k1_b2_2 g1_b2_2 k1_b2_3 g1_b2_3 k1_b3_0 g1_b3_0 k1_b3_1 g1_b3_1 k1_b3_2 g1_b3_2 k1_b3_3 g1_b3_3 k1_b4_0 g1_b4_0 k1_b4_1 g1_b4_1 k1_b4_2 g1_b4_2 k1_b4_3 g1_b4_3 B1 z1; rintro w' ⟨h0, h1, h2, h3, h4, h5, h6, h7, h8, h9, h10, h11, h12, h13, h14, h15, h16, h17, h18, h19, h20, h21, h22, h23⟩; exact c2 _
          refine obe_nil ?_
          rintro w2 ⟨h0, h1, h2, h3, h4, h5, h6, h7, h8, h9, h10, h11, h12, h13, h14, h15, h16, h17, h18, h19, h20, h21, h22, h23⟩ hb2 hF
          (try simp only [List.nil_append, List.append_nil, List.cons_append] at hF)
          simp only [puts, putD, Act.put, List.setIfInBounds_toArray, List.set_cons_zero, List.set_cons_succ]
          clear hF
          have k2_b2_0 := bcs hb2 k1_b2_0
          have g2_b2_0 := bfs hb2 k1_b2_0 g1_b2_0
          have k2_b2_1 := bcs hb2 k1_b2_1
          have g2_b2_1 := bfs hb2 k1_b2_1 g1_b2_1
          have k2_b2_2 := bcs hb2 k1_b2_2
          have g2_b2_2 := bfs hb2 k1_b2_2 g1_b2_2
          have k2_b2_3 := bcs hb2 k1_b2_3
          have g2_b2_3 := bfs hb2 k1_b2_3 g1_b2_3
          have k2_b3_0 := bcs hb2 k1_b3_0
          have g2_b3_0 := bfs hb2 k1_b3_0 g1_b3_0
          have k2_b3_1 := bcs hb2 k1_b3_1
          have g2_b3_1 := bfs hb2 k1_b3_1 g1_b3_1
          have k2_b3_2 := bcs hb2 k1_b3_2
          have g2_b3_2 := bfs hb2 k1_b3_2 g1_b3_2
          have k2_b3_3 := bcs hb2 k1_b3_3
          have g2_b3_3 := bfs hb2 k1_b3_3 g1_b3_3
          have k2_b4_0 := bcs hb2 k1_b4_0
          have g2_b4_0 := bfs hb2 k1_b4_0 g1_b4_0
          have k2_b4_1 := bcs hb2 k1_b4_1
          have g2_b4_1 := bfs hb2 k1_b4_1 g1_b4_1
          have k2_b4_2 := bcs hb2 k1_b4_2
          have g2_b4_2 := bfs hb2 k1_b4_2 g1_b4_2
          have k2_b4_3 := bcs hb2 k1_b4_3
          have g2_b4_3 := bfs hb2 k1_b4_3 g1_b4_3
          clear h0 h1 h2 h3 h4 h5 h6 h7 h8 h9 h10 h11 h12 h13 h14 h15 h16 h17 h18 h19 h20 h21 h22 h23
          have B2 := bel_step B1 hb2
          have z2 := Nat.le_trans z1 hb2.size
          clear hb2
          (try clear B1)
          (try clear z1)
          (try clear k1_b2_0)
          (try clear g1_b2_0)
          (try clear k1_b2_1)
          (try clear g1_b2_1)
          (try clear k1_b2_2)
          (try clear g1_b2_2)
          (try clear k1_b2_3)
          (try clear g1_b2_3)
          (try clear k1_b3_0)
          (try clear g1_b3_0)
          (try clear k1_b3_1)
          (try clear g1_b3_1)
          (try clear k1_b3_2)
          (try clear g1_b3_2)
          (try clear k1_b3_3)
          (try clear g1_b3_3)
          (try clear k1_b4_0)
          (try clear g1_b4_0)
          (try clear k1_b4_1)
          (try clear g1_b4_1)
          (try clear k1_b4_2)
          (try clear g1_b4_2)
          (try clear k1_b4_3)
          (try clear g1_b4_3)
          (try clear q1_b2)
          (try clear x1_b2)
          (try clear y1_b2)
          (try clear q1_b3)
          (try clear x1_b3)
          (try clear y1_b3)
          (try clear q1_b4)
          (try clear x1_b4)
          (try clear y1_b4)
          have q2_b2 : w.heap.size < w2.heap.size := qlt k2_b2_0
          have x2_b2 : ¬ w.heap.size = w2.heap.size := qne k2_b2_0
          have y2_b2 : ¬ w2.heap.size = w.heap.size := fun h => qne k2_b2_0 h.symm
          have q2_b3 : w.heap.size + 1 < w2.heap.size := qlt k2_b3_0
          have x2_b3 : ¬ w.heap.size + 1 = w2.heap.size := qne k2_b3_0
          have y2_b3 : ¬ w2.heap.size = w.heap.size + 1 := fun h => qne k2_b3_0 h.symm
          have q2_b4 : w.heap.size + 1 + 1 < w2.heap.size := qlt k2_b4_0
          have x2_b4 : ¬ w.heap.size + 1 + 1 = w2.heap.size := qne k2_b4_0
          have y2_b4 : ¬ w2.heap.size = w.heap.size + 1 + 1 := fun h => qne k2_b4_0 h.symm
          go_wp2
          refine bodyPost_ret (v := .agg #[.int .i64 m0, .int .i64 m1, .int .i64 m2, .int .i64 m3]) (by simp [results, Try.results52, go_sem, *]) rfl ⟨rfl, ?_⟩
          repeat (first | with_reducible exact Below.refl _ _ | with_reducible exact B2 | with_reducible apply below_drewN | with_reducible apply Below.drew | (with_reducible refine Below.alloc ?_ (by first | (simp; done) | (simp; omega) | omega) _) | (with_reducible refine Below.setCell ?_ (by first | (simp; done) | (simp; omega) | omega) _))
        have q2 : (u == 0) = false := by simp; omega
        have q0 : (s == 0) = true := by simpa using z0
        have q1 : (t == 0) = true := by simpa using z1
        clear z0 z1
        clear k k2
        go_enter Try.func52, Try.ntmps52
        go_wp2
        refine wp_region_env (fun w' => w'.cell? ⟨w.heap.size, 0, none⟩ = some (.int .i64 a) ∧ w'.frozen? ⟨w.heap.size, 0, none⟩ = false ∧ w'.cell? ⟨w.heap.size, 1, none⟩ = some (.int .i64 b) ∧ w'.frozen? ⟨w.heap.size, 1, none⟩ = false ∧ w'.cell? ⟨w.heap.size, 2, none⟩ = some (.int .i64 c) ∧ w'.frozen? ⟨w.heap.size, 2, none⟩ = false ∧ w'.cell? ⟨w.heap.size, 3, none⟩ = some (.int .i64 d) ∧ w'.frozen? ⟨w.heap.size, 3, none⟩ = false ∧ w'.cell? ⟨w.heap.size + 1, 0, none⟩ = some (.int .i64 s) ∧ w'.frozen? ⟨w.heap.size + 1, 0, none⟩ = false ∧ w'.cell? ⟨w.heap.size + 1, 1, none⟩ = some (.int .i64 t) ∧ w'.frozen? ⟨w.heap.size + 1, 1, none⟩ = false ∧ w'.cell? ⟨w.heap.size + 1, 2, none⟩ = some (.int .i64 u) ∧ w'.frozen? ⟨w.heap.size + 1, 2, none⟩ = false ∧ w'.cell? ⟨w.heap.size + 1, 3, none⟩ = some (.int .i64 v) ∧ w'.frozen? ⟨w.heap.size + 1, 3, none⟩ = false ∧ w'.cell? ⟨w.heap.size + 1 + 1, 0, none⟩ = some (.int .i64 0) ∧ w'.frozen? ⟨w.heap.size + 1 + 1, 0, none⟩ = false ∧ w'.cell? ⟨w.heap.size + 1 + 1, 1, none⟩ = some (.int .i64 0) ∧ w'.frozen? ⟨w.heap.size + 1 + 1, 1, none⟩ = false ∧ w'.cell? ⟨w.heap.size + 1 + 1, 2, none⟩ = some (.int .i64 0) ∧ w'.frozen? ⟨w.heap.size + 1 + 1, 2, none⟩ = false ∧ w'.cell? ⟨w.heap.size + 1 + 1, 3, none⟩ = some (.int .i64 0) ∧ w'.frozen? ⟨w.heap.size + 1 + 1, 3, none⟩ = false) (fun W => W.cell? ⟨w.heap.size, 0, none⟩ = some (.int .i64 a) ∧ W.frozen? ⟨w.heap.size, 0, none⟩ = false ∧ W.cell? ⟨w.heap.size, 1, none⟩ = some (.int .i64 b) ∧ W.frozen? ⟨w.heap.size, 1, none⟩ = false ∧ W.cell? ⟨w.heap.size, 2, none⟩ = some (.int .i64 c) ∧ W.frozen? ⟨w.heap.size, 2, none⟩ = false ∧ W.cell? ⟨w.heap.size, 3, none⟩ = some (.int .i64 d) ∧ W.frozen? ⟨w.heap.size, 3, none⟩ = false ∧ W.cell? ⟨w.heap.size + 1, 0, none⟩ = some (.int .i64 s) ∧ W.frozen? ⟨w.heap.size + 1, 0, none⟩ = false ∧ W.cell? ⟨w.heap.size + 1, 1, none⟩ = some (.int .i64 t) ∧ W.frozen? ⟨w.heap.size + 1, 1, none⟩ = false ∧ W.cell? ⟨w.heap.size + 1, 2, none⟩ = some (.int .i64 u) ∧ W.frozen? ⟨w.heap.size + 1, 2, none⟩ = false ∧ W.cell? ⟨w.heap.size + 1, 3, none⟩ = some (.int .i64 v) ∧ W.frozen? ⟨w.heap.size + 1, 3, none⟩ = false ∧ W.cell? ⟨w.heap.size + 1 + 1, 0, none⟩ = some (.int .i64 0) ∧ W.frozen? ⟨w.heap.size + 1 + 1, 0, none⟩ = false ∧ W.cell? ⟨w.heap.size + 1 + 1, 1, none⟩ = some (.int .i64 0) ∧ W.frozen? ⟨w.heap.size + 1 + 1, 1, none⟩ = false ∧ W.cell? ⟨w.heap.size + 1 + 1, 2, none⟩ = some (.int .i64 0) ∧ W.frozen? ⟨w.heap.size + 1 + 1, 2, none⟩ = false ∧ W.cell? ⟨w.heap.size + 1 + 1, 3, none⟩ = some (.int .i64 0) ∧ W.frozen? ⟨w.heap.size + 1 + 1, 3, none⟩ = false ∧ Below w.heap.size w W ∧ w.heap.size + 1 + 1 + 1 ≤ W.heap.size) 4 40 [.val (.agg #[.int .i64 a, .int .i64 b, .int .i64 c, .int .i64 d]), .call 48 #[.agg #[.int .i64 a, .int .i64 b, .int .i64 c, .int .i64 d]] (.agg #[.int .i64 a, .int .i64 b, .int .i64 c, .int .i64 d]), .val (.agg #[.int .i64 s, .int .i64 t, .int .i64 u, .int .i64 v]), .call 48 #[.agg #[.int .i64 s, .int .i64 t, .int .i64 u, .int .i64 v]] (.agg #[.int .i64 s, .int .i64 t, .int .i64 u, .int .i64 v])] (by kernel_rfl) (by kernel_rfl) rfl (by kernel_rfl) (by rintro w1 w2 ⟨h0, h1, h2, h3, h4, h5, h6, h7, h8, h9, h10, h11, h12, h13, h14, h15, h16, h17, h18, h19, h20, h21, h22, h23⟩ hb; exact ⟨bcs hb h0, bfs hb h0 h1, bcs hb h2, bfs hb h2 h3, bcs hb h4, bfs hb h4 h5, bcs hb h6, bfs hb h6 h7, bcs hb h8, bfs hb h8 h9, bcs hb h10, bfs hb h10 h11, bcs hb h12, bfs hb h12 h13, bcs hb h14, bfs hb h14 h15, bcs hb h16, bfs hb h16 h17, bcs hb h18, bfs hb h18 h19, bcs hb h20, bfs hb h20 h21, bcs hb h22, bfs hb h22 h23⟩) ⟨by first | with_reducible assumption | go_simp, by first | with_reducible assumption | go_simp, by first | with_reducible assumption | go_simp, by first | with_reducible assumption | go_simp, by first | with_reducible assumption | go_simp, by first | with_reducible assumption | go_simp, by first | with_reducible assumption | go_simp, by first | with_reducible assumption | go_simp, by first | with_reducible assumption | go_simp, by first | with_reducible assumption | go_simp, by first | with_reducible assumption | go_simp, by first | with_reducible assumption | go_simp, by first | with_reducible assumption | go_simp, by first | with_reducible assumption | go_simp, by first | with_reducible assumption | go_simp, by first | with_reducible assumption | go_simp, by first | with_reducible assumption | go_simp, by first | with_reducible assumption | go_simp, by first | with_reducible assumption | go_simp, by first | with_reducible assumption | go_simp, by first | with_reducible assumption | go_simp, by first | with_reducible assumption | go_simp, by first | with_reducible assumption | go_simp, by first | with_reducible assumption | go_simp, by repeat (first | with_reducible exact Below.refl _ _ | fail | with_reducible apply below_drewN | with_reducible apply Below.drew | (with_reducible refine Below.alloc ?_ (by first | (simp; done) | (simp; omega) | omega) _) | (with_reducible refine Below.setCell ?_ (by first | (simp; done) | (simp; omega) | omega) _)), by first | with_reducible assumption | (simp; done) | (simp; omega)⟩ ?_ ?_
        · rintro W ⟨k1_b2_0, g1_b2_0, k1_b2_1, g1_b2_1, k1_b2_2, g1_b2_2, k1_b2_3, g1_b2_3, k1_b3_0, g1_b3_0, k1_b3_1, g1_b3_1, k1_b3_2, g1_b3_2, k1_b3_3, g1_b3_3, k1_b4_0, g1_b4_0, k1_b4_1, g1_b4_1, k1_b4_2, g1_b4_2, k1_b4_3, g1_b4_3, B1, z1⟩; exact ⟨k1_b2_0, g1_b2_0, k1_b2_1, g1_b2_1, k1_b2_2, g1_b2_2, k1_b2_3, g1_b2_3, k1_b3_0, g1_b3_0, k1_b3_1, g1_b3_1, k1_b3_2, g1_b3_2, k1_b3_3, g1_b3_3, k1_b4_0, g1_b4_0, k1_b4_1, g1_b4_1, k1_b4_2, g1_b4_2, k1_b4_3, g1_b4_3⟩
        rintro w1 ⟨k1_b2_0, g1_b2_0, k1_b2_1, g1_b2_1, k1_b2_2, g1_b2_2, k1_b2_3, g1_b2_3, k1_b3_0, g1_b3_0, k1_b3_1, g1_b3_1, k1_b3_2, g1_b3_2, k1_b3_3, g1_b3_3, k1_b4_0, g1_b4_0, k1_b4_1, g1_b4_1, k1_b4_2, g1_b4_2, k1_b4_3, g1_b4_3, B1, z1⟩ gg
        simp only [List.take_succ_cons, List.take_zero, List.drop_succ_cons, List.drop_zero, List.cons_append, List.nil_append, List.append_nil]
        refine obe_val (by rfl) ?_ ?_
        · clear k1_b2_0 g1_b2_0 k1_b2_1 g1_b2_1 k1_b2_2 g1_b2_2 k1_b2_3 g1_b2_3 k1_b3_0 g1_b3_0 k1_b3_1 g1_b3_1 k1_b3_2 g1_b3_2 k1_b3_3 g1_b3_3 k1_b4_0 g1_b4_0 k1_b4_1 g1_b4_1 k1_b4_2 g1_b4_2 k1_b4_3 g1_b4_3 B1 z1; intro f hf; have u2 : f 2 = (.pointer (some ⟨w.heap.size, 0, none⟩)) := (by rw [← hf]; rfl); clear hf; rintro w' ⟨h0, h1, h2, h3, h4, h5, h6, h7, h8, h9, h10, h11, h12, h13, h14, h15, h16, h17, h18, h19, h20, h21, h22, h23⟩; go_simp; try exact IntWalk.i64_in _ (by omega)
        refine obe_call (by rfl) ?_ ?_ ?_
        · clear k1_b2_0 g1_b2_0 k1_b2_1 g1_b2_1 k1_b2_2 g1_b2_2 k1_b2_3 g1_b2_3 k1_b3_0 g1_b3_0 k1_b3_1 g1_b3_1 k1_b3_2 g1_b3_2 k1_b3_3 g1_b3_3 k1_b4_0 g1_b4_0 k1_b4_1 g1_b4_1 k1_b4_2 g1_b4_2 k1_b4_3 g1_b4_3 B1 z1; intro f hf; have u5 : f 5 = (.agg #[.int .i64 a, .int .i64 b, .int .i64 c, .int .i64 d]) := (by rw [← hf]; rfl); clear hf; intro w' _; simp only [execOp, resolve, invoke, rhoF_tmp, rhoF_func, rhoF_const, u5, List.map_toArray, List.map_cons, List.map_nil]; go_simp
        · clear k1_b2_0 g1_b2_0 k1_b2_1 g1_b2_1 k1_b2_2 g1_b2_2 k1_b2_3 g1_b2_3 k1_b3_0 g1_b3_0 k1_b3_1 g1_b3_1 k1_b3_2 g1_b3_2 k1_b3_3 g1_b3_3 k1_b4_0 g1_b4_0 k1_b4_1 g1_b4_1 k1_b4_2 g1_b4_2 k1_b4_3 g1_b4_3 B1 z1; rintro w' ⟨h0, h1, h2, h3, h4, h5, h6, h7, h8, h9, h10, h11, h12, h13, h14, h15, h16, h17, h18, h19, h20, h21, h22, h23⟩; exact c1 _
        refine obe_val (by rfl) ?_ ?_
        · clear k1_b2_0 g1_b2_0 k1_b2_1 g1_b2_1 k1_b2_2 g1_b2_2 k1_b2_3 g1_b2_3 k1_b3_0 g1_b3_0 k1_b3_1 g1_b3_1 k1_b3_2 g1_b3_2 k1_b3_3 g1_b3_3 k1_b4_0 g1_b4_0 k1_b4_1 g1_b4_1 k1_b4_2 g1_b4_2 k1_b4_3 g1_b4_3 B1 z1; intro f hf; have u3 : f 3 = (.pointer (some ⟨w.heap.size + 1, 0, none⟩)) := (by rw [← hf]; rfl); clear hf; rintro w' ⟨h0, h1, h2, h3, h4, h5, h6, h7, h8, h9, h10, h11, h12, h13, h14, h15, h16, h17, h18, h19, h20, h21, h22, h23⟩; go_simp; try exact IntWalk.i64_in _ (by omega)
        refine obe_call (by rfl) ?_ ?_ ?_
        · clear k1_b2_0 g1_b2_0 k1_b2_1 g1_b2_1 k1_b2_2 g1_b2_2 k1_b2_3 g1_b2_3 k1_b3_0 g1_b3_0 k1_b3_1 g1_b3_1 k1_b3_2 g1_b3_2 k1_b3_3 g1_b3_3 k1_b4_0 g1_b4_0 k1_b4_1 g1_b4_1 k1_b4_2 g1_b4_2 k1_b4_3 g1_b4_3 B1 z1; intro f hf; have u7 : f 7 = (.agg #[.int .i64 s, .int .i64 t, .int .i64 u, .int .i64 v]) := (by rw [← hf]; rfl); clear hf; intro w' _; simp only [execOp, resolve, invoke, rhoF_tmp, rhoF_func, rhoF_const, u7, List.map_toArray, List.map_cons, List.map_nil]; go_simp
        · clear k1_b2_0 g1_b2_0 k1_b2_1 g1_b2_1 k1_b2_2 g1_b2_2 k1_b2_3 g1_b2_3 k1_b3_0 g1_b3_0 k1_b3_1 g1_b3_1 k1_b3_2 g1_b3_2 k1_b3_3 g1_b3_3 k1_b4_0 g1_b4_0 k1_b4_1 g1_b4_1 k1_b4_2 g1_b4_2 k1_b4_3 g1_b4_3 B1 z1; rintro w' ⟨h0, h1, h2, h3, h4, h5, h6, h7, h8, h9, h10, h11, h12, h13, h14, h15, h16, h17, h18, h19, h20, h21, h22, h23⟩; exact c2 _
        refine obe_nil ?_
        rintro w2 ⟨h0, h1, h2, h3, h4, h5, h6, h7, h8, h9, h10, h11, h12, h13, h14, h15, h16, h17, h18, h19, h20, h21, h22, h23⟩ hb2 hF
        (try simp only [List.nil_append, List.append_nil, List.cons_append] at hF)
        simp only [puts, putD, Act.put, List.setIfInBounds_toArray, List.set_cons_zero, List.set_cons_succ]
        clear hF
        have k2_b2_0 := bcs hb2 k1_b2_0
        have g2_b2_0 := bfs hb2 k1_b2_0 g1_b2_0
        have k2_b2_1 := bcs hb2 k1_b2_1
        have g2_b2_1 := bfs hb2 k1_b2_1 g1_b2_1
        have k2_b2_2 := bcs hb2 k1_b2_2
        have g2_b2_2 := bfs hb2 k1_b2_2 g1_b2_2
        have k2_b2_3 := bcs hb2 k1_b2_3
        have g2_b2_3 := bfs hb2 k1_b2_3 g1_b2_3
        have k2_b3_0 := bcs hb2 k1_b3_0
        have g2_b3_0 := bfs hb2 k1_b3_0 g1_b3_0
        have k2_b3_1 := bcs hb2 k1_b3_1
        have g2_b3_1 := bfs hb2 k1_b3_1 g1_b3_1
        have k2_b3_2 := bcs hb2 k1_b3_2
        have g2_b3_2 := bfs hb2 k1_b3_2 g1_b3_2
        have k2_b3_3 := bcs hb2 k1_b3_3
        have g2_b3_3 := bfs hb2 k1_b3_3 g1_b3_3
        have k2_b4_0 := bcs hb2 k1_b4_0
        have g2_b4_0 := bfs hb2 k1_b4_0 g1_b4_0
        have k2_b4_1 := bcs hb2 k1_b4_1
        have g2_b4_1 := bfs hb2 k1_b4_1 g1_b4_1
        have k2_b4_2 := bcs hb2 k1_b4_2
        have g2_b4_2 := bfs hb2 k1_b4_2 g1_b4_2
        have k2_b4_3 := bcs hb2 k1_b4_3
        have g2_b4_3 := bfs hb2 k1_b4_3 g1_b4_3
        clear h0 h1 h2 h3 h4 h5 h6 h7 h8 h9 h10 h11 h12 h13 h14 h15 h16 h17 h18 h19 h20 h21 h22 h23
        have B2 := bel_step B1 hb2
        have z2 := Nat.le_trans z1 hb2.size
        clear hb2
        (try clear B1)
        (try clear z1)
        (try clear k1_b2_0)
        (try clear g1_b2_0)
        (try clear k1_b2_1)
        (try clear g1_b2_1)
        (try clear k1_b2_2)
        (try clear g1_b2_2)
        (try clear k1_b2_3)
        (try clear g1_b2_3)
        (try clear k1_b3_0)
        (try clear g1_b3_0)
        (try clear k1_b3_1)
        (try clear g1_b3_1)
        (try clear k1_b3_2)
        (try clear g1_b3_2)
        (try clear k1_b3_3)
        (try clear g1_b3_3)
        (try clear k1_b4_0)
        (try clear g1_b4_0)
        (try clear k1_b4_1)
        (try clear g1_b4_1)
        (try clear k1_b4_2)
        (try clear g1_b4_2)
        (try clear k1_b4_3)
        (try clear g1_b4_3)
        (try clear q1_b2)
        (try clear x1_b2)
        (try clear y1_b2)
        (try clear q1_b3)
        (try clear x1_b3)
        (try clear y1_b3)
        (try clear q1_b4)
        (try clear x1_b4)
        (try clear y1_b4)
        have q2_b2 : w.heap.size < w2.heap.size := qlt k2_b2_0
        have x2_b2 : ¬ w.heap.size = w2.heap.size := qne k2_b2_0
        have y2_b2 : ¬ w2.heap.size = w.heap.size := fun h => qne k2_b2_0 h.symm
        have q2_b3 : w.heap.size + 1 < w2.heap.size := qlt k2_b3_0
        have x2_b3 : ¬ w.heap.size + 1 = w2.heap.size := qne k2_b3_0
        have y2_b3 : ¬ w2.heap.size = w.heap.size + 1 := fun h => qne k2_b3_0 h.symm
        have q2_b4 : w.heap.size + 1 + 1 < w2.heap.size := qlt k2_b4_0
        have x2_b4 : ¬ w.heap.size + 1 + 1 = w2.heap.size := qne k2_b4_0
        have y2_b4 : ¬ w2.heap.size = w.heap.size + 1 + 1 := fun h => qne k2_b4_0 h.symm
        go_wp2
        refine bodyPost_ret (v := .agg #[.int .i64 m0, .int .i64 m1, .int .i64 m2, .int .i64 m3]) (by simp [results, Try.results52, go_sem, *]) rfl ⟨rfl, ?_⟩
        repeat (first | with_reducible exact Below.refl _ _ | with_reducible exact B2 | with_reducible apply below_drewN | with_reducible apply Below.drew | (with_reducible refine Below.alloc ?_ (by first | (simp; done) | (simp; omega) | omega) _) | (with_reducible refine Below.setCell ?_ (by first | (simp; done) | (simp; omega) | omega) _))
      by_cases z1 : b = 0
      case neg =>
        have p0 : (a == 0) = true := by simpa using z0
        have p1 : (b == 0) = false := by simpa using z1
        clear z0 z1
        by_cases z0 : s = 0
        case neg =>
          have q0 : (s == 0) = false := by simpa using z0
          clear z0
          clear k k2
          go_enter Try.func52, Try.ntmps52
          go_wp2
          refine wp_region_env (fun w' => w'.cell? ⟨w.heap.size, 0, none⟩ = some (.int .i64 a) ∧ w'.frozen? ⟨w.heap.size, 0, none⟩ = false ∧ w'.cell? ⟨w.heap.size, 1, none⟩ = some (.int .i64 b) ∧ w'.frozen? ⟨w.heap.size, 1, none⟩ = false ∧ w'.cell? ⟨w.heap.size, 2, none⟩ = some (.int .i64 c) ∧ w'.frozen? ⟨w.heap.size, 2, none⟩ = false ∧ w'.cell? ⟨w.heap.size, 3, none⟩ = some (.int .i64 d) ∧ w'.frozen? ⟨w.heap.size, 3, none⟩ = false ∧ w'.cell? ⟨w.heap.size + 1, 0, none⟩ = some (.int .i64 s) ∧ w'.frozen? ⟨w.heap.size + 1, 0, none⟩ = false ∧ w'.cell? ⟨w.heap.size + 1, 1, none⟩ = some (.int .i64 t) ∧ w'.frozen? ⟨w.heap.size + 1, 1, none⟩ = false ∧ w'.cell? ⟨w.heap.size + 1, 2, none⟩ = some (.int .i64 u) ∧ w'.frozen? ⟨w.heap.size + 1, 2, none⟩ = false ∧ w'.cell? ⟨w.heap.size + 1, 3, none⟩ = some (.int .i64 v) ∧ w'.frozen? ⟨w.heap.size + 1, 3, none⟩ = false ∧ w'.cell? ⟨w.heap.size + 1 + 1, 0, none⟩ = some (.int .i64 0) ∧ w'.frozen? ⟨w.heap.size + 1 + 1, 0, none⟩ = false ∧ w'.cell? ⟨w.heap.size + 1 + 1, 1, none⟩ = some (.int .i64 0) ∧ w'.frozen? ⟨w.heap.size + 1 + 1, 1, none⟩ = false ∧ w'.cell? ⟨w.heap.size + 1 + 1, 2, none⟩ = some (.int .i64 0) ∧ w'.frozen? ⟨w.heap.size + 1 + 1, 2, none⟩ = false ∧ w'.cell? ⟨w.heap.size + 1 + 1, 3, none⟩ = some (.int .i64 0) ∧ w'.frozen? ⟨w.heap.size + 1 + 1, 3, none⟩ = false) (fun W => W.cell? ⟨w.heap.size, 0, none⟩ = some (.int .i64 a) ∧ W.frozen? ⟨w.heap.size, 0, none⟩ = false ∧ W.cell? ⟨w.heap.size, 1, none⟩ = some (.int .i64 b) ∧ W.frozen? ⟨w.heap.size, 1, none⟩ = false ∧ W.cell? ⟨w.heap.size, 2, none⟩ = some (.int .i64 c) ∧ W.frozen? ⟨w.heap.size, 2, none⟩ = false ∧ W.cell? ⟨w.heap.size, 3, none⟩ = some (.int .i64 d) ∧ W.frozen? ⟨w.heap.size, 3, none⟩ = false ∧ W.cell? ⟨w.heap.size + 1, 0, none⟩ = some (.int .i64 s) ∧ W.frozen? ⟨w.heap.size + 1, 0, none⟩ = false ∧ W.cell? ⟨w.heap.size + 1, 1, none⟩ = some (.int .i64 t) ∧ W.frozen? ⟨w.heap.size + 1, 1, none⟩ = false ∧ W.cell? ⟨w.heap.size + 1, 2, none⟩ = some (.int .i64 u) ∧ W.frozen? ⟨w.heap.size + 1, 2, none⟩ = false ∧ W.cell? ⟨w.heap.size + 1, 3, none⟩ = some (.int .i64 v) ∧ W.frozen? ⟨w.heap.size + 1, 3, none⟩ = false ∧ W.cell? ⟨w.heap.size + 1 + 1, 0, none⟩ = some (.int .i64 0) ∧ W.frozen? ⟨w.heap.size + 1 + 1, 0, none⟩ = false ∧ W.cell? ⟨w.heap.size + 1 + 1, 1, none⟩ = some (.int .i64 0) ∧ W.frozen? ⟨w.heap.size + 1 + 1, 1, none⟩ = false ∧ W.cell? ⟨w.heap.size + 1 + 1, 2, none⟩ = some (.int .i64 0) ∧ W.frozen? ⟨w.heap.size + 1 + 1, 2, none⟩ = false ∧ W.cell? ⟨w.heap.size + 1 + 1, 3, none⟩ = some (.int .i64 0) ∧ W.frozen? ⟨w.heap.size + 1 + 1, 3, none⟩ = false ∧ Below w.heap.size w W ∧ w.heap.size + 1 + 1 + 1 ≤ W.heap.size) 4 40 [.val (.agg #[.int .i64 a, .int .i64 b, .int .i64 c, .int .i64 d]), .call 48 #[.agg #[.int .i64 a, .int .i64 b, .int .i64 c, .int .i64 d]] (.agg #[.int .i64 a, .int .i64 b, .int .i64 c, .int .i64 d]), .val (.agg #[.int .i64 s, .int .i64 t, .int .i64 u, .int .i64 v]), .call 48 #[.agg #[.int .i64 s, .int .i64 t, .int .i64 u, .int .i64 v]] (.agg #[.int .i64 s, .int .i64 t, .int .i64 u, .int .i64 v])] (by kernel_rfl) (by kernel_rfl) rfl (by kernel_rfl) (by rintro w1 w2 ⟨h0, h1, h2, h3, h4, h5, h6, h7, h8, h9, h10, h11, h12, h13, h14, h15, h16, h17, h18, h19, h20, h21, h22, h23⟩ hb; exact ⟨bcs hb h0, bfs hb h0 h1, bcs hb h2, bfs hb h2 h3, bcs hb h4, bfs hb h4 h5, bcs hb h6, bfs hb h6 h7, bcs hb h8, bfs hb h8 h9, bcs hb h10, bfs hb h10 h11, bcs hb h12, bfs hb h12 h13, bcs hb h14, bfs hb h14 h15, bcs hb h16, bfs hb h16 h17, bcs hb h18, bfs hb h18 h19, bcs hb h20, bfs hb h20 h21, bcs hb h22, bfs hb h22 h23⟩) ⟨by first | with_reducible assumption | go_simp, by first | with_reducible assumption | go_simp, by first | with_reducible assumption | go_simp, by first | with_reducible assumption | go_simp, by first | with_reducible assumption | go_simp, by first | with_reducible assumption | go_simp, by first | with_reducible assumption | go_simp, by first | with_reducible assumption | go_simp, by first | with_reducible assumption | go_simp, by first | with_reducible assumption | go_simp, by first | with_reducible assumption | go_simp, by first | with_reducible assumption | go_simp, by first | with_reducible assumption | go_simp, by first | with_reducible assumption | go_simp, by first | with_reducible assumption | go_simp, by first | with_reducible assumption | go_simp, by first | with_reducible assumption | go_simp, by first | with_reducible assumption | go_simp, by first | with_reducible assumption | go_simp, by first | with_reducible assumption | go_simp, by first | with_reducible assumption | go_simp, by first | with_reducible assumption | go_simp, by first | with_reducible assumption | go_simp, by first | with_reducible assumption | go_simp, by repeat (first | with_reducible exact Below.refl _ _ | fail | with_reducible apply below_drewN | with_reducible apply Below.drew | (with_reducible refine Below.alloc ?_ (by first | (simp; done) | (simp; omega) | omega) _) | (with_reducible refine Below.setCell ?_ (by first | (simp; done) | (simp; omega) | omega) _)), by first | with_reducible assumption | (simp; done) | (simp; omega)⟩ ?_ ?_
          · rintro W ⟨k1_b2_0, g1_b2_0, k1_b2_1, g1_b2_1, k1_b2_2, g1_b2_2, k1_b2_3, g1_b2_3, k1_b3_0, g1_b3_0, k1_b3_1, g1_b3_1, k1_b3_2, g1_b3_2, k1_b3_3, g1_b3_3, k1_b4_0, g1_b4_0, k1_b4_1, g1_b4_1, k1_b4_2, g1_b4_2, k1_b4_3, g1_b4_3, B1, z1⟩; exact ⟨k1_b2_0, g1_b2_0, k1_b2_1, g1_b2_1, k1_b2_2, g1_b2_2, k1_b2_3, g1_b2_3, k1_b3_0, g1_b3_0, k1_b3_1, g1_b3_1, k1_b3_2, g1_b3_2, k1_b3_3, g1_b3_3, k1_b4_0, g1_b4_0, k1_b4_1, g1_b4_1, k1_b4_2, g1_b4_2, k1_b4_3, g1_b4_3⟩
          rintro w1 ⟨k1_b2_0, g1_b2_0, k1_b2_1, g1_b2_1, k1_b2_2, g1_b2_2, k1_b2_3, g1_b2_3, k1_b3_0, g1_b3_0, k1_b3_1, g1_b3_1, k1_b3_2, g1_b3_2, k1_b3_3, g1_b3_3, k1_b4_0, g1_b4_0, k1_b4_1, g1_b4_1, k1_b4_2, g1_b4_2, k1_b4_3, g1_b4_3, B1, z1⟩ gg
          simp only [List.take_succ_cons, List.take_zero, List.drop_succ_cons, List.drop_zero, List.cons_append, List.nil_append, List.append_nil]
          refine obe_val (by rfl) ?_ ?_
          · clear k1_b2_0 g1_b2_0 k1_b2_1 g1_b2_1 k1_b2_2 g1_b2_2 k1_b2_3 g1_b2_3 k1_b3_0 g1_b3_0 k1_b3_1 g1_b3_1 k1_b3_2 g1_b3_2 k1_b3_3 g1_b3_3 k1_b4_0 g1_b4_0 k1_b4_1 g1_b4_1 k1_b4_2 g1_b4_2 k1_b4_3 g1_b4_3 B1 z1; intro f hf; have u2 : f 2 = (.pointer (some ⟨w.heap.size, 0, none⟩)) := (by rw [← hf]; rfl); clear hf; rintro w' ⟨h0, h1, h2, h3, h4, h5, h6, h7, h8, h9, h10, h11, h12, h13, h14, h15, h16, h17, h18, h19, h20, h21, h22, h23⟩; go_simp; try exact IntWalk.i64_in _ (by omega)
          refine obe_call (by rfl) ?_ ?_ ?_
          · clear k1_b2_0 g1_b2_0 k1_b2_1 g1_b2_1 k1_b2_2 g1_b2_2 k1_b2_3 g1_b2_3 k1_b3_0 g1_b3_0 k1_b3_1 g1_b3_1 k1_b3_2 g1_b3_2 k1_b3_3 g1_b3_3 k1_b4_0 g1_b4_0 k1_b4_1 g1_b4_1 k1_b4_2 g1_b4_2 k1_b4_3 g1_b4_3 B1 z1; intro f hf; have u5 : f 5 = (.agg #[.int .i64 a, .int .i64 b, .int .i64 c, .int .i64 d]) := (by rw [← hf]; rfl); clear hf; intro w' _; simp only [execOp, resolve, invoke, rhoF_tmp, rhoF_func, rhoF_const, u5, List.map_toArray, List.map_cons, List.map_nil]; go_simp
          · clear k1_b2_0 g1_b2_0 k1_b2_1 g1_b2_1 k1_b2_2 g1_b2_2 k1_b2_3 g1_b2_3 k1_b3_0 g1_b3_0 k1_b3_1 g1_b3_1 k1_b3_2 g1_b3_2 k1_b3_3 g1_b3_3 k1_b4_0 g1_b4_0 k1_b4_1 g1_b4_1 k1_b4_2 g1_b4_2 k1_b4_3 g1_b4_3 B1 z1; rintro w' ⟨h0, h1, h2, h3, h4, h5, h6, h7, h8, h9, h10, h11, h12, h13, h14, h15, h16, h17, h18, h19, h20, h21, h22, h23⟩; exact c1 _
          refine obe_val (by rfl) ?_ ?_
          · clear k1_b2_0 g1_b2_0 k1_b2_1 g1_b2_1 k1_b2_2 g1_b2_2 k1_b2_3 g1_b2_3 k1_b3_0 g1_b3_0 k1_b3_1 g1_b3_1 k1_b3_2 g1_b3_2 k1_b3_3 g1_b3_3 k1_b4_0 g1_b4_0 k1_b4_1 g1_b4_1 k1_b4_2 g1_b4_2 k1_b4_3 g1_b4_3 B1 z1; intro f hf; have u3 : f 3 = (.pointer (some ⟨w.heap.size + 1, 0, none⟩)) := (by rw [← hf]; rfl); clear hf; rintro w' ⟨h0, h1, h2, h3, h4, h5, h6, h7, h8, h9, h10, h11, h12, h13, h14, h15, h16, h17, h18, h19, h20, h21, h22, h23⟩; go_simp; try exact IntWalk.i64_in _ (by omega)
          refine obe_call (by rfl) ?_ ?_ ?_
          · clear k1_b2_0 g1_b2_0 k1_b2_1 g1_b2_1 k1_b2_2 g1_b2_2 k1_b2_3 g1_b2_3 k1_b3_0 g1_b3_0 k1_b3_1 g1_b3_1 k1_b3_2 g1_b3_2 k1_b3_3 g1_b3_3 k1_b4_0 g1_b4_0 k1_b4_1 g1_b4_1 k1_b4_2 g1_b4_2 k1_b4_3 g1_b4_3 B1 z1; intro f hf; have u7 : f 7 = (.agg #[.int .i64 s, .int .i64 t, .int .i64 u, .int .i64 v]) := (by rw [← hf]; rfl); clear hf; intro w' _; simp only [execOp, resolve, invoke, rhoF_tmp, rhoF_func, rhoF_const, u7, List.map_toArray, List.map_cons, List.map_nil]; go_simp
          · clear k1_b2_0 g1_b2_0 k1_b2_1 g1_b2_1 k1_b2_2 g1_b2_2 k1_b2_3 g1_b2_3 k1_b3_0 g1_b3_0 k1_b3_1 g1_b3_1 k1_b3_2 g1_b3_2 k1_b3_3 g1_b3_3 k1_b4_0 g1_b4_0 k1_b4_1 g1_b4_1 k1_b4_2 g1_b4_2 k1_b4_3 g1_b4_3 B1 z1; rintro w' ⟨h0, h1, h2, h3, h4, h5, h6, h7, h8, h9, h10, h11, h12, h13, h14, h15, h16, h17, h18, h19, h20, h21, h22, h23⟩; exact c2 _
          refine obe_nil ?_
          rintro w2 ⟨h0, h1, h2, h3, h4, h5, h6, h7, h8, h9, h10, h11, h12, h13, h14, h15, h16, h17, h18, h19, h20, h21, h22, h23⟩ hb2 hF
          (try simp only [List.nil_append, List.append_nil, List.cons_append] at hF)
          simp only [puts, putD, Act.put, List.setIfInBounds_toArray, List.set_cons_zero, List.set_cons_succ]
          clear hF
          have k2_b2_0 := bcs hb2 k1_b2_0
          have g2_b2_0 := bfs hb2 k1_b2_0 g1_b2_0
          have k2_b2_1 := bcs hb2 k1_b2_1
          have g2_b2_1 := bfs hb2 k1_b2_1 g1_b2_1
          have k2_b2_2 := bcs hb2 k1_b2_2
          have g2_b2_2 := bfs hb2 k1_b2_2 g1_b2_2
          have k2_b2_3 := bcs hb2 k1_b2_3
          have g2_b2_3 := bfs hb2 k1_b2_3 g1_b2_3
          have k2_b3_0 := bcs hb2 k1_b3_0
          have g2_b3_0 := bfs hb2 k1_b3_0 g1_b3_0
          have k2_b3_1 := bcs hb2 k1_b3_1
          have g2_b3_1 := bfs hb2 k1_b3_1 g1_b3_1
          have k2_b3_2 := bcs hb2 k1_b3_2
          have g2_b3_2 := bfs hb2 k1_b3_2 g1_b3_2
          have k2_b3_3 := bcs hb2 k1_b3_3
          have g2_b3_3 := bfs hb2 k1_b3_3 g1_b3_3
          have k2_b4_0 := bcs hb2 k1_b4_0
          have g2_b4_0 := bfs hb2 k1_b4_0 g1_b4_0
          have k2_b4_1 := bcs hb2 k1_b4_1
          have g2_b4_1 := bfs hb2 k1_b4_1 g1_b4_1
          have k2_b4_2 := bcs hb2 k1_b4_2
          have g2_b4_2 := bfs hb2 k1_b4_2 g1_b4_2
          have k2_b4_3 := bcs hb2 k1_b4_3
          have g2_b4_3 := bfs hb2 k1_b4_3 g1_b4_3
          clear h0 h1 h2 h3 h4 h5 h6 h7 h8 h9 h10 h11 h12 h13 h14 h15 h16 h17 h18 h19 h20 h21 h22 h23
          have B2 := bel_step B1 hb2
          have z2 := Nat.le_trans z1 hb2.size
          clear hb2
          (try clear B1)
          (try clear z1)
          (try clear k1_b2_0)
          (try clear g1_b2_0)
          (try clear k1_b2_1)
          (try clear g1_b2_1)
          (try clear k1_b2_2)
          (try clear g1_b2_2)
          (try clear k1_b2_3)
          (try clear g1_b2_3)
          (try clear k1_b3_0)
          (try clear g1_b3_0)
          (try clear k1_b3_1)
          (try clear g1_b3_1)
          (try clear k1_b3_2)
          (try clear g1_b3_2)
          (try clear k1_b3_3)
          (try clear g1_b3_3)
          (try clear k1_b4_0)
          (try clear g1_b4_0)
          (try clear k1_b4_1)
          (try clear g1_b4_1)
          (try clear k1_b4_2)
          (try clear g1_b4_2)
          (try clear k1_b4_3)
          (try clear g1_b4_3)
          (try clear q1_b2)
          (try clear x1_b2)
          (try clear y1_b2)
          (try clear q1_b3)
          (try clear x1_b3)
          (try clear y1_b3)
          (try clear q1_b4)
          (try clear x1_b4)
          (try clear y1_b4)
          have q2_b2 : w.heap.size < w2.heap.size := qlt k2_b2_0
          have x2_b2 : ¬ w.heap.size = w2.heap.size := qne k2_b2_0
          have y2_b2 : ¬ w2.heap.size = w.heap.size := fun h => qne k2_b2_0 h.symm
          have q2_b3 : w.heap.size + 1 < w2.heap.size := qlt k2_b3_0
          have x2_b3 : ¬ w.heap.size + 1 = w2.heap.size := qne k2_b3_0
          have y2_b3 : ¬ w2.heap.size = w.heap.size + 1 := fun h => qne k2_b3_0 h.symm
          have q2_b4 : w.heap.size + 1 + 1 < w2.heap.size := qlt k2_b4_0
          have x2_b4 : ¬ w.heap.size + 1 + 1 = w2.heap.size := qne k2_b4_0
          have y2_b4 : ¬ w2.heap.size = w.heap.size + 1 + 1 := fun h => qne k2_b4_0 h.symm
          go_wp2
          refine bodyPost_ret (v := .agg #[.int .i64 m0, .int .i64 m1, .int .i64 m2, .int .i64 m3]) (by simp [results, Try.results52, go_sem, *]) rfl ⟨rfl, ?_⟩
          repeat (first | with_reducible exact Below.refl _ _ | with_reducible exact B2 | with_reducible apply below_drewN | with_reducible apply Below.drew | (with_reducible refine Below.alloc ?_ (by first | (simp; done) | (simp; omega) | omega) _) | (with_reducible refine Below.setCell ?_ (by first | (simp; done) | (simp; omega) | omega) _))
        by_cases z1 : t = 0
        case neg =>
          have q0 : (s == 0) = true := by simpa using z0
          have q1 : (t == 0) = false := by simpa using z1
          clear z0 z1
          clear k k2
          go_enter Try.func52, Try.ntmps52
          go_wp2
          refine wp_region_env (fun w' => w'.cell? ⟨w.heap.size, 0, none⟩ = some (.int .i64 a) ∧ w'.frozen? ⟨w.heap.size, 0, none⟩ = false ∧ w'.cell? ⟨w.heap.size, 1, none⟩ = some (.int .i64 b) ∧ w'.frozen? ⟨w.heap.size, 1, none⟩ = false ∧ w'.cell? ⟨w.heap.size, 2, none⟩ = some (.int .i64 c) ∧ w'.frozen? ⟨w.heap.size, 2, none⟩ = false ∧ w'.cell? ⟨w.heap.size, 3, none⟩ = some (.int .i64 d) ∧ w'.frozen? ⟨w.heap.size, 3, none⟩ = false ∧ w'.cell? ⟨w.heap.size + 1, 0, none⟩ = some (.int .i64 s) ∧ w'.frozen? ⟨w.heap.size + 1, 0, none⟩ = false ∧ w'.cell? ⟨w.heap.size + 1, 1, none⟩ = some (.int .i64 t) ∧ w'.frozen? ⟨w.heap.size + 1, 1, none⟩ = false ∧ w'.cell? ⟨w.heap.size + 1, 2, none⟩ = some (.int .i64 u) ∧ w'.frozen? ⟨w.heap.size + 1, 2, none⟩ = false ∧ w'.cell? ⟨w.heap.size + 1, 3, none⟩ = some (.int .i64 v) ∧ w'.frozen? ⟨w.heap.size + 1, 3, none⟩ = false ∧ w'.cell? ⟨w.heap.size + 1 + 1, 0, none⟩ = some (.int .i64 0) ∧ w'.frozen? ⟨w.heap.size + 1 + 1, 0, none⟩ = false ∧ w'.cell? ⟨w.heap.size + 1 + 1, 1, none⟩ = some (.int .i64 0) ∧ w'.frozen? ⟨w.heap.size + 1 + 1, 1, none⟩ = false ∧ w'.cell? ⟨w.heap.size + 1 + 1, 2, none⟩ = some (.int .i64 0) ∧ w'.frozen? ⟨w.heap.size + 1 + 1, 2, none⟩ = false ∧ w'.cell? ⟨w.heap.size + 1 + 1, 3, none⟩ = some (.int .i64 0) ∧ w'.frozen? ⟨w.heap.size + 1 + 1, 3, none⟩ = false) (fun W => W.cell? ⟨w.heap.size, 0, none⟩ = some (.int .i64 a) ∧ W.frozen? ⟨w.heap.size, 0, none⟩ = false ∧ W.cell? ⟨w.heap.size, 1, none⟩ = some (.int .i64 b) ∧ W.frozen? ⟨w.heap.size, 1, none⟩ = false ∧ W.cell? ⟨w.heap.size, 2, none⟩ = some (.int .i64 c) ∧ W.frozen? ⟨w.heap.size, 2, none⟩ = false ∧ W.cell? ⟨w.heap.size, 3, none⟩ = some (.int .i64 d) ∧ W.frozen? ⟨w.heap.size, 3, none⟩ = false ∧ W.cell? ⟨w.heap.size + 1, 0, none⟩ = some (.int .i64 s) ∧ W.frozen? ⟨w.heap.size + 1, 0, none⟩ = false ∧ W.cell? ⟨w.heap.size + 1, 1, none⟩ = some (.int .i64 t) ∧ W.frozen? ⟨w.heap.size + 1, 1, none⟩ = false ∧ W.cell? ⟨w.heap.size + 1, 2, none⟩ = some (.int .i64 u) ∧ W.frozen? ⟨w.heap.size + 1, 2, none⟩ = false ∧ W.cell? ⟨w.heap.size + 1, 3, none⟩ = some (.int .i64 v) ∧ W.frozen? ⟨w.heap.size + 1, 3, none⟩ = false ∧ W.cell? ⟨w.heap.size + 1 + 1, 0, none⟩ = some (.int .i64 0) ∧ W.frozen? ⟨w.heap.size + 1 + 1, 0, none⟩ = false ∧ W.cell? ⟨w.heap.size + 1 + 1, 1, none⟩ = some (.int .i64 0) ∧ W.frozen? ⟨w.heap.size + 1 + 1, 1, none⟩ = false ∧ W.cell? ⟨w.heap.size + 1 + 1, 2, none⟩ = some (.int .i64 0) ∧ W.frozen? ⟨w.heap.size + 1 + 1, 2, none⟩ = false ∧ W.cell? ⟨w.heap.size + 1 + 1, 3, none⟩ = some (.int .i64 0) ∧ W.frozen? ⟨w.heap.size + 1 + 1, 3, none⟩ = false ∧ Below w.heap.size w W ∧ w.heap.size + 1 + 1 + 1 ≤ W.heap.size) 4 40 [.val (.agg #[.int .i64 a, .int .i64 b, .int .i64 c, .int .i64 d]), .call 48 #[.agg #[.int .i64 a, .int .i64 b, .int .i64 c, .int .i64 d]] (.agg #[.int .i64 a, .int .i64 b, .int .i64 c, .int .i64 d]), .val (.agg #[.int .i64 s, .int .i64 t, .int .i64 u, .int .i64 v]), .call 48 #[.agg #[.int .i64 s, .int .i64 t, .int .i64 u, .int .i64 v]] (.agg #[.int .i64 s, .int .i64 t, .int .i64 u, .int .i64 v])] (by kernel_rfl) (by kernel_rfl) rfl (by kernel_rfl) (by rintro w1 w2 ⟨h0, h1, h2, h3, h4, h5, h6, h7, h8, h9, h10, h11, h12, h13, h14, h15, h16, h17, h18, h19, h20, h21, h22, h23⟩ hb; exact ⟨bcs hb h0, bfs hb h0 h1, bcs hb h2, bfs hb h2 h3, bcs hb h4, bfs hb h4 h5, bcs hb h6, bfs hb h6 h7, bcs hb h8, bfs hb h8 h9, bcs hb h10, bfs hb h10 h11, bcs hb h12, bfs hb h12 h13, bcs hb h14, bfs hb h14 h15, bcs hb h16, bfs hb h16 h17, bcs hb h18, bfs hb h18 h19, bcs hb h20, bfs hb h20 h21, bcs hb h22, bfs hb h22 h23⟩) ⟨by first | with_reducible assumption | go_simp, by first | with_reducible assumption | go_simp, by first | with_reducible assumption | go_simp, by first | with_reducible assumption | go_simp, by first | with_reducible assumption | go_simp, by first | with_reducible assumption | go_simp, by first | with_reducible assumption | go_simp, by first | with_reducible assumption | go_simp, by first | with_reducible assumption | go_simp, by first | with_reducible assumption | go_simp, by first | with_reducible assumption | go_simp, by first | with_reducible assumption | go_simp, by first | with_reducible assumption | go_simp, by first | with_reducible assumption | go_simp, by first | with_reducible assumption | go_simp, by first | with_reducible assumption | go_simp, by first | with_reducible assumption | go_simp, by first | with_reducible assumption | go_simp, by first | with_reducible assumption | go_simp, by first | with_reducible assumption | go_simp, by first | with_reducible assumption | go_simp, by first | with_reducible assumption | go_simp, by first | with_reducible assumption | go_simp, by first | with_reducible assumption | go_simp, by repeat (first | with_reducible exact Below.refl _ _ | fail | with_reducible apply below_drewN | with_reducible apply Below.drew | (with_reducible refine Below.alloc ?_ (by first | (simp; done) | (simp; omega) | omega) _) | (with_reducible refine Below.setCell ?_ (by first | (simp; done) | (simp; omega) | omega) _)), by first | with_reducible assumption | (simp; done) | (simp; omega)⟩ ?_ ?_
          · rintro W ⟨k1_b2_0, g1_b2_0, k1_b2_1, g1_b2_1, k1_b2_2, g1_b2_2, k1_b2_3, g1_b2_3, k1_b3_0, g1_b3_0, k1_b3_1, g1_b3_1, k1_b3_2, g1_b3_2, k1_b3_3, g1_b3_3, k1_b4_0, g1_b4_0, k1_b4_1, g1_b4_1, k1_b4_2, g1_b4_2, k1_b4_3, g1_b4_3, B1, z1⟩; exact ⟨k1_b2_0, g1_b2_0, k1_b2_1, g1_b2_1, k1_b2_2, g1_b2_2, k1_b2_3, g1_b2_3, k1_b3_0, g1_b3_0, k1_b3_1, g1_b3_1, k1_b3_2, g1_b3_2, k1_b3_3, g1_b3_3, k1_b4_0, g1_b4_0, k1_b4_1, g1_b4_1, k1_b4_2, g1_b4_2, k1_b4_3, g1_b4_3⟩
          rintro w1 ⟨k1_b2_0, g1_b2_0, k1_b2_1, g1_b2_1, k1_b2_2, g1_b2_2, k1_b2_3, g1_b2_3, k1_b3_0, g1_b3_0, k1_b3_1, g1_b3_1, k1_b3_2, g1_b3_2, k1_b3_3, g1_b3_3, k1_b4_0, g1_b4_0, k1_b4_1, g1_b4_1, k1_b4_2, g1_b4_2, k1_b4_3, g1_b4_3, B1, z1⟩ gg
          simp only [List.take_succ_cons, List.take_zero, List.drop_succ_cons, List.drop_zero, List.cons_append, List.nil_append, List.append_nil]
          refine obe_val (by rfl) ?_ ?_
          · clear k1_b2_0 g1_b2_0 k1_b2_1 g1_b2_1 k1_b2_2 g1_b2_2 k1_b2_3 g1_b2_3 k1_b3_0 g1_b3_0 k1_b3_1 g1_b3_1 k1_b3_2 g1_b3_2 k1_b3_3 g1_b3_3 k1_b4_0 g1_b4_0 k1_b4_1 g1_b4_1 k1_b4_2 g1_b4_2 k1_b4_3 g1_b4_3 B1 z1; intro f hf; have u2 : f 2 = (.pointer (some ⟨w.heap.size, 0, none⟩)) := (by rw [← hf]; rfl); clear hf; rintro w' ⟨h0, h1, h2, h3, h4, h5, h6, h7, h8, h9, h10, h11, h12, h13, h14, h15, h16, h17, h18, h19, h20, h21, h22, h23⟩; go_simp; try exact IntWalk.i64_in _ (by omega)
          refine obe_call (by rfl) ?_ ?_ ?_
          · clear k1_b2_0 g1_b2_0 k1_b2_1 g1_b2_1 k1_b2_2 g1_b2_2 k1_b2_3 g1_b2_3 k1_b3_0 g1_b3_0 k1_b3_1 g1_b3_1 k1_b3_2 g1_b3_2 k1_b3_3 g1_b3_3 k1_b4_0 g1_b4_0 k1_b4_1 g1_b4_1 k1_b4_2 g1_b4_2 k1_b4_3 g1_b4_3 B1 z1; intro f hf; have u5 : f 5 = (.agg #[.int .i64 a, .int .i64 b, .int .i64 c, .int .i64 d]) := (by rw [← hf]; rfl); clear hf; intro w' _; simp only [execOp, resolve, invoke, rhoF_tmp, rhoF_func, rhoF_const, u5, List.map_toArray, List.map_cons, List.map_nil]; go_simp
          · clear k1_b2_0 g1_b2_0 k1_b2_1 g1_b2_1 k1_b2_2 g1_b2_2 k1_b2_3 g1_b2_3 k1_b3_0 g1_b3_0 k1_b3_1 g1_b3_1 k1_b3_2 g1_b3_2 k1_b3_3 g1_b3_3 k1_b4_0 g1_b4_0 k1_b4_1 g1_b4_1 k1_b4_2 g1_b4_2 k1_b4_3 g1_b4_3 B1 z1; rintro w' ⟨h0, h1, h2, h3, h4, h5, h6, h7, h8, h9, h10, h11, h12, h13, h14, h15, h16, h17, h18, h19, h20, h21, h22, h23⟩; exact c1 _
          refine obe_val (by rfl) ?_ ?_
          · clear k1_b2_0 g1_b2_0 k1_b2_1 g1_b2_1 k1_b2_2 g1_b2_2 k1_b2_3 g1_b2_3 k1_b3_0 g1_b3_0 k1_b3_1 g1_b3_1 k1_b3_2 g1_b3_2 k1_b3_3 g1_b3_3 k1_b4_0 g1_b4_0 k1_b4_1 g1_b4_1 k1_b4_2 g1_b4_2 k1_b4_3 g1_b4_3 B1 z1; intro f hf; have u3 : f 3 = (.pointer (some ⟨w.heap.size + 1, 0, none⟩)) := (by rw [← hf]; rfl); clear hf; rintro w' ⟨h0, h1, h2, h3, h4, h5, h6, h7, h8, h9, h10, h11, h12, h13, h14, h15, h16, h17, h18, h19, h20, h21, h22, h23⟩; go_simp; try exact IntWalk.i64_in _ (by omega)
          refine obe_call (by rfl) ?_ ?_ ?_
          · clear k1_b2_0 g1_b2_0 k1_b2_1 g1_b2_1 k1_b2_2 g1_b2_2 k1_b2_3 g1_b2_3 k1_b3_0 g1_b3_0 k1_b3_1 g1_b3_1 k1_b3_2 g1_b3_2 k1_b3_3 g1_b3_3 k1_b4_0 g1_b4_0 k1_b4_1 g1_b4_1 k1_b4_2 g1_b4_2 k1_b4_3 g1_b4_3 B1 z1; intro f hf; have u7 : f 7 = (.agg #[.int .i64 s, .int .i64 t, .int .i64 u, .int .i64 v]) := (by rw [← hf]; rfl); clear hf; intro w' _; simp only [execOp, resolve, invoke, rhoF_tmp, rhoF_func, rhoF_const, u7, List.map_toArray, List.map_cons, List.map_nil]; go_simp
          · clear k1_b2_0 g1_b2_0 k1_b2_1 g1_b2_1 k1_b2_2 g1_b2_2 k1_b2_3 g1_b2_3 k1_b3_0 g1_b3_0 k1_b3_1 g1_b3_1 k1_b3_2 g1_b3_2 k1_b3_3 g1_b3_3 k1_b4_0 g1_b4_0 k1_b4_1 g1_b4_1 k1_b4_2 g1_b4_2 k1_b4_3 g1_b4_3 B1 z1; rintro w' ⟨h0, h1, h2, h3, h4, h5, h6, h7, h8, h9, h10, h11, h12, h13, h14, h15, h16, h17, h18, h19, h20, h21, h22, h23⟩; exact c2 _
          refine obe_nil ?_
          rintro w2 ⟨h0, h1, h2, h3, h4, h5, h6, h7, h8, h9, h10, h11, h12, h13, h14, h15, h16, h17, h18, h19, h20, h21, h22, h23⟩ hb2 hF
          (try simp only [List.nil_append, List.append_nil, List.cons_append] at hF)
          simp only [puts, putD, Act.put, List.setIfInBounds_toArray, List.set_cons_zero, List.set_cons_succ]
          clear hF
          have k2_b2_0 := bcs hb2 k1_b2_0
          have g2_b2_0 := bfs hb2 k1_b2_0 g1_b2_0
          have k2_b2_1 := bcs hb2 k1_b2_1
          have g2_b2_1 := bfs hb2 k1_b2_1 g1_b2_1
          have k2_b2_2 := bcs hb2 k1_b2_2
          have g2_b2_2 := bfs hb2 k1_b2_2 g1_b2_2
          have k2_b2_3 := bcs hb2 k1_b2_3
          have g2_b2_3 := bfs hb2 k1_b2_3 g1_b2_3
          have k2_b3_0 := bcs hb2 k1_b3_0
          have g2_b3_0 := bfs hb2 k1_b3_0 g1_b3_0
          have k2_b3_1 := bcs hb2 k1_b3_1
          have g2_b3_1 := bfs hb2 k1_b3_1 g1_b3_1
          have k2_b3_2 := bcs hb2 k1_b3_2
          have g2_b3_2 := bfs hb2 k1_b3_2 g1_b3_2
          have k2_b3_3 := bcs hb2 k1_b3_3
          have g2_b3_3 := bfs hb2 k1_b3_3 g1_b3_3
          have k2_b4_0 := bcs hb2 k1_b4_0
          have g2_b4_0 := bfs hb2 k1_b4_0 g1_b4_0
          have k2_b4_1 := bcs hb2 k1_b4_1
          have g2_b4_1 := bfs hb2 k1_b4_1 g1_b4_1
          have k2_b4_2 := bcs hb2 k1_b4_2
          have g2_b4_2 := bfs hb2 k1_b4_2 g1_b4_2
          have k2_b4_3 := bcs hb2 k1_b4_3
          have g2_b4_3 := bfs hb2 k1_b4_3 g1_b4_3
          clear h0 h1 h2 h3 h4 h5 h6 h7 h8 h9 h10 h11 h12 h13 h14 h15 h16 h17 h18 h19 h20 h21 h22 h23
          have B2 := bel_step B1 hb2
          have z2 := Nat.le_trans z1 hb2.size
          clear hb2
          (try clear B1)
          (try clear z1)
          (try clear k1_b2_0)
          (try clear g1_b2_0)
          (try clear k1_b2_1)
          (try clear g1_b2_1)
          (try clear k1_b2_2)
          (try clear g1_b2_2)
          (try clear k1_b2_3)
          (try clear g1_b2_3)
          (try clear k1_b3_0)
          (try clear g1_b3_0)
          (try clear k1_b3_1)
          (try clear g1_b3_1)
          (try clear k1_b3_2)
          (try clear g1_b3_2)
          (try clear k1_b3_3)
          (try clear g1_b3_3)
          (try clear k1_b4_0)
          (try clear g1_b4_0)
          (try clear k1_b4_1)
          (try clear g1_b4_1)
          (try clear k1_b4_2)
          (try clear g1_b4_2)
          (try clear k1_b4_3)
          (try clear g1_b4_3)
          (try clear q1_b2)
          (try clear x1_b2)
          (try clear y1_b2)
          (try clear q1_b3)
          (try clear x1_b3)
          (try clear y1_b3)
          (try clear q1_b4)
          (try clear x1_b4)
          (try clear y1_b4)
          have q2_b2 : w.heap.size < w2.heap.size := qlt k2_b2_0
          have x2_b2 : ¬ w.heap.size = w2.heap.size := qne k2_b2_0
          have y2_b2 : ¬ w2.heap.size = w.heap.size := fun h => qne k2_b2_0 h.symm
          have q2_b3 : w.heap.size + 1 < w2.heap.size := qlt k2_b3_0
          have x2_b3 : ¬ w.heap.size + 1 = w2.heap.size := qne k2_b3_0
          have y2_b3 : ¬ w2.heap.size = w.heap.size + 1 := fun h => qne k2_b3_0 h.symm
          have q2_b4 : w.heap.size + 1 + 1 < w2.heap.size := qlt k2_b4_0
          have x2_b4 : ¬ w.heap.size + 1 + 1 = w2.heap.size := qne k2_b4_0
          have y2_b4 : ¬ w2.heap.size = w.heap.size + 1 + 1 := fun h => qne k2_b4_0 h.symm
          go_wp2
          refine bodyPost_ret (v := .agg #[.int .i64 m0, .int .i64 m1, .int .i64 m2, .int .i64 m3]) (by simp [results, Try.results52, go_sem, *]) rfl ⟨rfl, ?_⟩
          repeat (first | with_reducible exact Below.refl _ _ | with_reducible exact B2 | with_reducible apply below_drewN | with_reducible apply Below.drew | (with_reducible refine Below.alloc ?_ (by first | (simp; done) | (simp; omega) | omega) _) | (with_reducible refine Below.setCell ?_ (by first | (simp; done) | (simp; omega) | omega) _))
        have q2 : (u == 0) = false := by simp; omega
        have q0 : (s == 0) = true := by simpa using z0
        have q1 : (t == 0) = true := by simpa using z1
        clear z0 z1
        clear k k2
        go_enter Try.func52, Try.ntmps52
        go_wp2
        refine wp_region_env (fun w' => w'.cell? ⟨w.heap.size, 0, none⟩ = some (.int .i64 a) ∧ w'.frozen? ⟨w.heap.size, 0, none⟩ = false ∧ w'.cell? ⟨w.heap.size, 1, none⟩ = some (.int .i64 b) ∧ w'.frozen? ⟨w.heap.size, 1, none⟩ = false ∧ w'.cell? ⟨w.heap.size, 2, none⟩ = some (.int .i64 c) ∧ w'.frozen? ⟨w.heap.size, 2, none⟩ = false ∧ w'.cell? ⟨w.heap.size, 3, none⟩ = some (.int .i64 d) ∧ w'.frozen? ⟨w.heap.size, 3, none⟩ = false ∧ w'.cell? ⟨w.heap.size + 1, 0, none⟩ = some (.int .i64 s) ∧ w'.frozen? ⟨w.heap.size + 1, 0, none⟩ = false ∧ w'.cell? ⟨w.heap.size + 1, 1, none⟩ = some (.int .i64 t) ∧ w'.frozen? ⟨w.heap.size + 1, 1, none⟩ = false ∧ w'.cell? ⟨w.heap.size + 1, 2, none⟩ = some (.int .i64 u) ∧ w'.frozen? ⟨w.heap.size + 1, 2, none⟩ = false ∧ w'.cell? ⟨w.heap.size + 1, 3, none⟩ = some (.int .i64 v) ∧ w'.frozen? ⟨w.heap.size + 1, 3, none⟩ = false ∧ w'.cell? ⟨w.heap.size + 1 + 1, 0, none⟩ = some (.int .i64 0) ∧ w'.frozen? ⟨w.heap.size + 1 + 1, 0, none⟩ = false ∧ w'.cell? ⟨w.heap.size + 1 + 1, 1, none⟩ = some (.int .i64 0) ∧ w'.frozen? ⟨w.heap.size + 1 + 1, 1, none⟩ = false ∧ w'.cell? ⟨w.heap.size + 1 + 1, 2, none⟩ = some (.int .i64 0) ∧ w'.frozen? ⟨w.heap.size + 1 + 1, 2, none⟩ = false ∧ w'.cell? ⟨w.heap.size + 1 + 1, 3, none⟩ = some (.int .i64 0) ∧ w'.frozen? ⟨w.heap.size + 1 + 1, 3, none⟩ = false) (fun W => W.cell? ⟨w.heap.size, 0, none⟩ = some (.int .i64 a) ∧ W.frozen? ⟨w.heap.size, 0, none⟩ = false ∧ W.cell? ⟨w.heap.size, 1, none⟩ = some (.int .i64 b) ∧ W.frozen? ⟨w.heap.size, 1, none⟩ = false ∧ W.cell? ⟨w.heap.size, 2, none⟩ = some (.int .i64 c) ∧ W.frozen? ⟨w.heap.size, 2, none⟩ = false ∧ W.cell? ⟨w.heap.size, 3, none⟩ = some (.int .i64 d) ∧ W.frozen? ⟨w.heap.size, 3, none⟩ = false ∧ W.cell? ⟨w.heap.size + 1, 0, none⟩ = some (.int .i64 s) ∧ W.frozen? ⟨w.heap.size + 1, 0, none⟩ = false ∧ W.cell? ⟨w.heap.size + 1, 1, none⟩ = some (.int .i64 t) ∧ W.frozen? ⟨w.heap.size + 1, 1, none⟩ = false ∧ W.cell? ⟨w.heap.size + 1, 2, none⟩ = some (.int .i64 u) ∧ W.frozen? ⟨w.heap.size + 1, 2, none⟩ = false ∧ W.cell? ⟨w.heap.size + 1, 3, none⟩ = some (.int .i64 v) ∧ W.frozen? ⟨w.heap.size + 1, 3, none⟩ = false ∧ W.cell? ⟨w.heap.size + 1 + 1, 0, none⟩ = some (.int .i64 0) ∧ W.frozen? ⟨w.heap.size + 1 + 1, 0, none⟩ = false ∧ W.cell? ⟨w.heap.size + 1 + 1, 1, none⟩ = some (.int .i64 0) ∧ W.frozen? ⟨w.heap.size + 1 + 1, 1, none⟩ = false ∧ W.cell? ⟨w.heap.size + 1 + 1, 2, none⟩ = some (.int .i64 0) ∧ W.frozen? ⟨w.heap.size + 1 + 1, 2, none⟩ = false ∧ W.cell? ⟨w.heap.size + 1 + 1, 3, none⟩ = some (.int .i64 0) ∧ W.frozen? ⟨w.heap.size + 1 + 1, 3, none⟩ = false ∧ Below w.heap.size w W ∧ w.heap.size + 1 + 1 + 1 ≤ W.heap.size) 4 40 [.val (.agg #[.int .i64 a, .int .i64 b, .int .i64 c, .int .i64 d]), .call 48 #[.agg #[.int .i64 a, .int .i64 b, .int .i64 c, .int .i64 d]] (.agg #[.int .i64 a, .int .i64 b, .int .i64 c, .int .i64 d]), .val (.agg #[.int .i64 s, .int .i64 t, .int .i64 u, .int .i64 v]), .call 48 #[.agg #[.int .i64 s, .int .i64 t, .int .i64 u, .int .i64 v]] (.agg #[.int .i64 s, .int .i64 t, .int .i64 u, .int .i64 v])] (by kernel_rfl) (by kernel_rfl) rfl (by kernel_rfl) (by rintro w1 w2 ⟨h0, h1, h2, h3, h4, h5, h6, h7, h8, h9, h10, h11, h12, h13, h14, h15, h16, h17, h18, h19, h20, h21, h22, h23⟩ hb; exact ⟨bcs hb h0, bfs hb h0 h1, bcs hb h2, bfs hb h2 h3, bcs hb h4, bfs hb h4 h5, bcs hb h6, bfs hb h6 h7, bcs hb h8, bfs hb h8 h9, bcs hb h10, bfs hb h10 h11, bcs hb h12, bfs hb h12 h13, bcs hb h14, bfs hb h14 h15, bcs hb h16, bfs hb h16 h17, bcs hb h18, bfs hb h18 h19, bcs hb h20, bfs hb h20 h21, bcs hb h22, bfs hb h22 h23⟩) ⟨by first | with_reducible assumption | go_simp, by first | with_reducible assumption | go_simp, by first | with_reducible assumption | go_simp, by first | with_reducible assumption | go_simp, by first | with_reducible assumption | go_simp, by first | with_reducible assumption | go_simp, by first | with_reducible assumption | go_simp, by first | with_reducible assumption | go_simp, by first | with_reducible assumption | go_simp, by first | with_reducible assumption | go_simp, by first | with_reducible assumption | go_simp, by first | with_reducible assumption | go_simp, by first | with_reducible assumption | go_simp, by first | with_reducible assumption | go_simp, by first | with_reducible assumption | go_simp, by first | with_reducible assumption | go_simp, by first | with_reducible assumption | go_simp, by first | with_reducible assumption | go_simp, by first | with_reducible assumption | go_simp, by first | with_reducible assumption | go_simp, by first | with_reducible assumption | go_simp, by first | with_reducible assumption | go_simp, by first | with_reducible assumption | go_simp, by first | with_reducible assumption | go_simp, by repeat (first | with_reducible exact Below.refl _ _ | fail | with_reducible apply below_drewN | with_reducible apply Below.drew | (with_reducible refine Below.alloc ?_ (by first | (simp; done) | (simp; omega) | omega) _) | (with_reducible refine Below.setCell ?_ (by first | (simp; done) | (simp; omega) | omega) _)), by first | with_reducible assumption | (simp; done) | (simp; omega)⟩ ?_ ?_
        · rintro W ⟨k1_b2_0, g1_b2_0, k1_b2_1, g1_b2_1, k1_b2_2, g1_b2_2, k1_b2_3, g1_b2_3, k1_b3_0, g1_b3_0, k1_b3_1, g1_b3_1, k1_b3_2, g1_b3_2, k1_b3_3, g1_b3_3, k1_b4_0, g1_b4_0, k1_b4_1, g1_b4_1, k1_b4_2, g1_b4_2, k1_b4_3, g1_b4_3, B1, z1⟩; exact ⟨k1_b2_0, g1_b2_0, k1_b2_1, g1_b2_1, k1_b2_2, g1_b2_2, k1_b2_3, g1_b2_3, k1_b3_0, g1_b3_0, k1_b3_1, g1_b3_1, k1_b3_2, g1_b3_2, k1_b3_3, g1_b3_3, k1_b4_0, g1_b4_0, k1_b4_1, g1_b4_1, k1_b4_2, g1_b4_2, k1_b4_3, g1_b4_3⟩
        rintro w1 ⟨k1_b2_0, g1_b2_0, k1_b2_1, g1_b2_1, k1_b2_2, g1_b2_2, k1_b2_3, g1_b2_3, k1_b3_0, g1_b3_0, k1_b3_1, g1_b3_1, k1_b3_2, g1_b3_2, k1_b3_3, g1_b3_3, k1_b4_0, g1_b4_0, k1_b4_1, g1_b4_1, k1_b4_2, g1_b4_2, k1_b4_3, g1_b4_3, B1, z1⟩ gg
        simp only [List.take_succ_cons, List.take_zero, List.drop_succ_cons, List.drop_zero, List.cons_append, List.nil_append, List.append_nil]
        refine obe_val (by rfl) ?_ ?_
        · clear k1_b2_0 g1_b2_0 k1_b2_1 g1_b2_1 k1_b2_2 g1_b2_2 k1_b2_3 g1_b2_3 k1_b3_0 g1_b3_0 k1_b3_1 g1_b3_1 k1_b3_2 g1_b3_2 k1_b3_3 g1_b3_3 k1_b4_0 g1_b4_0 k1_b4_1 g1_b4_1 k1_b4_2 g1_b4_2 k1_b4_3 g1_b4_3 B1 z1; intro f hf; have u2 : f 2 = (.pointer (some ⟨w.heap.size, 0, none⟩)) := (by rw [← hf]; rfl); clear hf; rintro w' ⟨h0, h1, h2, h3, h4, h5, h6, h7, h8, h9, h10, h11, h12, h13, h14, h15, h16, h17, h18, h19, h20, h21, h22, h23⟩; go_simp; try exact IntWalk.i64_in _ (by omega)
        refine obe_call (by rfl) ?_ ?_ ?_
        · clear k1_b2_0 g1_b2_0 k1_b2_1 g1_b2_1 k1_b2_2 g1_b2_2 k1_b2_3 g1_b2_3 k1_b3_0 g1_b3_0 k1_b3_1 g1_b3_1 k1_b3_2 g1_b3_2 k1_b3_3 g1_b3_3 k1_b4_0 g1_b4_0 k1_b4_1 g1_b4_1 k1_b4_2 g1_b4_2 k1_b4_3 g1_b4_3 B1 z1; intro f hf; have u5 : f 5 = (.agg #[.int .i64 a, .int .i64 b, .int .i64 c, .int .i64 d]) := (by rw [← hf]; rfl); clear hf; intro w' _; simp only [execOp, resolve, invoke, rhoF_tmp, rhoF_func, rhoF_const, u5, List.map_toArray, List.map_cons, List.map_nil]; go_simp
        · clear k1_b2_0 g1_b2_0 k1_b2_1 g1_b2_1 k1_b2_2 g1_b2_2 k1_b2_3 g1_b2_3 k1_b3_0 g1_b3_0 k1_b3_1 g1_b3_1 k1_b3_2 g1_b3_2 k1_b3_3 g1_b3_3 k1_b4_0 g1_b4_0 k1_b4_1 g1_b4_1 k1_b4_2 g1_b4_2 k1_b4_3 g1_b4_3 B1 z1; rintro w' ⟨h0, h1, h2, h3, h4, h5, h6, h7, h8, h9, h10, h11, h12, h13, h14, h15, h16, h17, h18, h19, h20, h21, h22, h23⟩; exact c1 _
        refine obe_val (by rfl) ?_ ?_
        · clear k1_b2_0 g1_b2_0 k1_b2_1 g1_b2_1 k1_b2_2 g1_b2_2 k1_b2_3 g1_b2_3 k1_b3_0 g1_b3_0 k1_b3_1 g1_b3_1 k1_b3_2 g1_b3_2 k1_b3_3 g1_b3_3 k1_b4_0 g1_b4_0 k1_b4_1 g1_b4_1 k1_b4_2 g1_b4_2 k1_b4_3 g1_b4_3 B1 z1; intro f hf; have u3 : f 3 = (.pointer (some ⟨w.heap.size + 1, 0, none⟩)) := (by rw [← hf]; rfl); clear hf; rintro w' ⟨h0, h1, h2, h3, h4, h5, h6, h7, h8, h9, h10, h11, h12, h13, h14, h15, h16, h17, h18, h19, h20, h21, h22, h23⟩; go_simp; try exact IntWalk.i64_in _ (by omega)
        refine obe_call (by rfl) ?_ ?_ ?_
        · clear k1_b2_0 g1_b2_0 k1_b2_1 g1_b2_1 k1_b2_2 g1_b2_2 k1_b2_3 g1_b2_3 k1_b3_0 g1_b3_0 k1_b3_1 g1_b3_1 k1_b3_2 g1_b3_2 k1_b3_3 g1_b3_3 k1_b4_0 g1_b4_0 k1_b4_1 g1_b4_1 k1_b4_2 g1_b4_2 k1_b4_3 g1_b4_3 B1 z1; intro f hf; have u7 : f 7 = (.agg #[.int .i64 s, .int .i64 t, .int .i64 u, .int .i64 v]) := (by rw [← hf]; rfl); clear hf; intro w' _; simp only [execOp, resolve, invoke, rhoF_tmp, rhoF_func, rhoF_const, u7, List.map_toArray, List.map_cons, List.map_nil]; go_simp
        · clear k1_b2_0 g1_b2_0 k1_b2_1 g1_b2_1 k1_b2_2 g1_b2_2 k1_b2_3 g1_b2_3 k1_b3_0 g1_b3_0 k1_b3_1 g1_b3_1 k1_b3_2 g1_b3_2 k1_b3_3 g1_b3_3 k1_b4_0 g1_b4_0 k1_b4_1 g1_b4_1 k1_b4_2 g1_b4_2 k1_b4_3 g1_b4_3 B1 z1; rintro w' ⟨h0, h1, h2, h3, h4, h5, h6, h7, h8, h9, h10, h11, h12, h13, h14, h15, h16, h17, h18, h19, h20, h21, h22, h23⟩; exact c2 _
        refine obe_nil ?_
        rintro w2 ⟨h0, h1, h2, h3, h4, h5, h6, h7, h8, h9, h10, h11, h12, h13, h14, h15, h16, h17, h18, h19, h20, h21, h22, h23⟩ hb2 hF
        (try simp only [List.nil_append, List.append_nil, List.cons_append] at hF)
        simp only [puts, putD, Act.put, List.setIfInBounds_toArray, List.set_cons_zero, List.set_cons_succ]
        clear hF
        have k2_b2_0 := bcs hb2 k1_b2_0
        have g2_b2_0 := bfs hb2 k1_b2_0 g1_b2_0
        have k2_b2_1 := bcs hb2 k1_b2_1
        have g2_b2_1 := bfs hb2 k1_b2_1 g1_b2_1
        have k2_b2_2 := bcs hb2 k1_b2_2
        have g2_b2_2 := bfs hb2 k1_b2_2 g1_b2_2
        have k2_b2_3 := bcs hb2 k1_b2_3
        have g2_b2_3 := bfs hb2 k1_b2_3 g1_b2_3
        have k2_b3_0 := bcs hb2 k1_b3_0
        have g2_b3_0 := bfs hb2 k1_b3_0 g1_b3_0
        have k2_b3_1 := bcs hb2 k1_b3_1
        have g2_b3_1 := bfs hb2 k1_b3_1 g1_b3_1
        have k2_b3_2 := bcs hb2 k1_b3_2
        have g2_b3_2 := bfs hb2 k1_b3_2 g1_b3_2
        have k2_b3_3 := bcs hb2 k1_b3_3
        have g2_b3_3 := bfs hb2 k1_b3_3 g1_b3_3
        have k2_b4_0 := bcs hb2 k1_b4_0
        have g2_b4_0 := bfs hb2 k1_b4_0 g1_b4_0
        have k2_b4_1 := bcs hb2 k1_b4_1
        have g2_b4_1 := bfs hb2 k1_b4_1 g1_b4_1
        have k2_b4_2 := bcs hb2 k1_b4_2
        have g2_b4_2 := bfs hb2 k1_b4_2 g1_b4_2
        have k2_b4_3 := bcs hb2 k1_b4_3
        have g2_b4_3 := bfs hb2 k1_b4_3 g1_b4_3
        clear h0 h1 h2 h3 h4 h5 h6 h7 h8 h9 h10 h11 h12 h13 h14 h15 h16 h17 h18 h19 h20 h21 h22 h23
        have B2 := bel_step B1 hb2
        have z2 := Nat.le_trans z1 hb2.size
        clear hb2
        (try clear B1)
        (try clear z1)
        (try clear k1_b2_0)
        (try clear g1_b2_0)
        (try clear k1_b2_1)
        (try clear g1_b2_1)
        (try clear k1_b2_2)
        (try clear g1_b2_2)
        (try clear k1_b2_3)
        (try clear g1_b2_3)
        (try clear k1_b3_0)
        (try clear g1_b3_0)
        (try clear k1_b3_1)
        (try clear g1_b3_1)
        (try clear k1_b3_2)
        (try clear g1_b3_2)
        (try clear k1_b3_3)
        (try clear g1_b3_3)
        (try clear k1_b4_0)
        (try clear g1_b4_0)
        (try clear k1_b4_1)
        (try clear g1_b4_1)
        (try clear k1_b4_2)
        (try clear g1_b4_2)
        (try clear k1_b4_3)
        (try clear g1_b4_3)
        (try clear q1_b2)
        (try clear x1_b2)
        (try clear y1_b2)
        (try clear q1_b3)
        (try clear x1_b3)
        (try clear y1_b3)
        (try clear q1_b4)
        (try clear x1_b4)
        (try clear y1_b4)
        have q2_b2 : w.heap.size < w2.heap.size := qlt k2_b2_0
        have x2_b2 : ¬ w.heap.size = w2.heap.size := qne k2_b2_0
        have y2_b2 : ¬ w2.heap.size = w.heap.size := fun h => qne k2_b2_0 h.symm
        have q2_b3 : w.heap.size + 1 < w2.heap.size := qlt k2_b3_0
        have x2_b3 : ¬ w.heap.size + 1 = w2.heap.size := qne k2_b3_0
        have y2_b3 : ¬ w2.heap.size = w.heap.size + 1 := fun h => qne k2_b3_0 h.symm
        have q2_b4 : w.heap.size + 1 + 1 < w2.heap.size := qlt k2_b4_0
        have x2_b4 : ¬ w.heap.size + 1 + 1 = w2.heap.size := qne k2_b4_0
        have y2_b4 : ¬ w2.heap.size = w.heap.size + 1 + 1 := fun h => qne k2_b4_0 h.symm
        go_wp2
        refine bodyPost_ret (v := .agg #[.int .i64 m0, .int .i64 m1, .int .i64 m2, .int .i64 m3]) (by simp [results, Try.results52, go_sem, *]) rfl ⟨rfl, ?_⟩
        repeat (first | with_reducible exact Below.refl _ _ | with_reducible exact B2 | with_reducible apply below_drewN | with_reducible apply Below.drew | (with_reducible refine Below.alloc ?_ (by first | (simp; done) | (simp; omega) | omega) _) | (with_reducible refine Below.setCell ?_ (by first | (simp; done) | (simp; omega) | omega) _))
      have p2 : (c == 0) = false := by simp; omega
      have p0 : (a == 0) = true := by simpa using z0
      have p1 : (b == 0) = true := by simpa using z1
      clear z0 z1
      by_cases z0 : s = 0
      case neg =>
        have q0 : (s == 0) = false := by simpa using z0
        clear z0
        clear k k2
        go_enter Try.func52, Try.ntmps52
        go_wp2
        refine wp_region_env (fun w' => w'.cell? ⟨w.heap.size, 0, none⟩ = some (.int .i64 a) ∧ w'.frozen? ⟨w.heap.size, 0, none⟩ = false ∧ w'.cell? ⟨w.heap.size, 1, none⟩ = some (.int .i64 b) ∧ w'.frozen? ⟨w.heap.size, 1, none⟩ = false ∧ w'.cell? ⟨w.heap.size, 2, none⟩ = some (.int .i64 c) ∧ w'.frozen? ⟨w.heap.size, 2, none⟩ = false ∧ w'.cell? ⟨w.heap.size, 3, none⟩ = some (.int .i64 d) ∧ w'.frozen? ⟨w.heap.size, 3, none⟩ = false ∧ w'.cell? ⟨w.heap.size + 1, 0, none⟩ = some (.int .i64 s) ∧ w'.frozen? ⟨w.heap.size + 1, 0, none⟩ = false ∧ w'.cell? ⟨w.heap.size + 1, 1, none⟩ = some (.int .i64 t) ∧ w'.frozen? ⟨w.heap.size + 1, 1, none⟩ = false ∧ w'.cell? ⟨w.heap.size + 1, 2, none⟩ = some (.int .i64 u) ∧ w'.frozen? ⟨w.heap.size + 1, 2, none⟩ = false ∧ w'.cell? ⟨w.heap.size + 1, 3, none⟩ = some (.int .i64 v) ∧ w'.frozen? ⟨w.heap.size + 1, 3, none⟩ = false ∧ w'.cell? ⟨w.heap.size + 1 + 1, 0, none⟩ = some (.int .i64 0) ∧ w'.frozen? ⟨w.heap.size + 1 + 1, 0, none⟩ = false ∧ w'.cell? ⟨w.heap.size + 1 + 1, 1, none⟩ = some (.int .i64 0) ∧ w'.frozen? ⟨w.heap.size + 1 + 1, 1, none⟩ = false ∧ w'.cell? ⟨w.heap.size + 1 + 1, 2, none⟩ = some (.int .i64 0) ∧ w'.frozen? ⟨w.heap.size + 1 + 1, 2, none⟩ = false ∧ w'.cell? ⟨w.heap.size + 1 + 1, 3, none⟩ = some (.int .i64 0) ∧ w'.frozen? ⟨w.heap.size + 1 + 1, 3, none⟩ = false) (fun W => W.cell? ⟨w.heap.size, 0, none⟩ = some (.int .i64 a) ∧ W.frozen? ⟨w.heap.size, 0, none⟩ = false ∧ W.cell? ⟨w.heap.size, 1, none⟩ = some (.int .i64 b) ∧ W.frozen? ⟨w.heap.size, 1, none⟩ = false ∧ W.cell? ⟨w.heap.size, 2, none⟩ = some (.int .i64 c) ∧ W.frozen? ⟨w.heap.size, 2, none⟩ = false ∧ W.cell? ⟨w.heap.size, 3, none⟩ = some (.int .i64 d) ∧ W.frozen? ⟨w.heap.size, 3, none⟩ = false ∧ W.cell? ⟨w.heap.size + 1, 0, none⟩ = some (.int .i64 s) ∧ W.frozen? ⟨w.heap.size + 1, 0, none⟩ = false ∧ W.cell? ⟨w.heap.size + 1, 1, none⟩ = some (.int .i64 t) ∧ W.frozen? ⟨w.heap.size + 1, 1, none⟩ = false ∧ W.cell? ⟨w.heap.size + 1, 2, none⟩ = some (.int .i64 u) ∧ W.frozen? ⟨w.heap.size + 1, 2, none⟩ = false ∧ W.cell? ⟨w.heap.size + 1, 3, none⟩ = some (.int .i64 v) ∧ W.frozen? ⟨w.heap.size + 1, 3, none⟩ = false ∧ W.cell? ⟨w.heap.size + 1 + 1, 0, none⟩ = some (.int .i64 0) ∧ W.frozen? ⟨w.heap.size + 1 + 1, 0, none⟩ = false ∧ W.cell? ⟨w.heap.size + 1 + 1, 1, none⟩ = some (.int .i64 0) ∧ W.frozen? ⟨w.heap.size + 1 + 1, 1, none⟩ = false ∧ W.cell? ⟨w.heap.size + 1 + 1, 2, none⟩ = some (.int .i64 0) ∧ W.frozen? ⟨w.heap.size + 1 + 1, 2, none⟩ = false ∧ W.cell? ⟨w.heap.size + 1 + 1, 3, none⟩ = some (.int .i64 0) ∧ W.frozen? ⟨w.heap.size + 1 + 1, 3, none⟩ = false ∧ Below w.heap.size w W ∧ w.heap.size + 1 + 1 + 1 ≤ W.heap.size) 4 40 [.val (.agg #[.int .i64 a, .int .i64 b, .int .i64 c, .int .i64 d]), .call 48 #[.agg #[.int .i64 a, .int .i64 b, .int .i64 c, .int .i64 d]] (.agg #[.int .i64 a, .int .i64 b, .int .i64 c, .int .i64 d]), .val (.agg #[.int .i64 s, .int .i64 t, .int .i64 u, .int .i64 v]), .call 48 #[.agg #[.int .i64 s, .int .i64 t, .int .i64 u, .int .i64 v]] (.agg #[.int .i64 s, .int .i64 t, .int .i64 u, .int .i64 v])] (by kernel_rfl) (by kernel_rfl) rfl (by kernel_rfl) (by rintro w1 w2 ⟨h0, h1, h2, h3, h4, h5, h6, h7, h8, h9, h10, h11, h12, h13, h14, h15, h16, h17, h18, h19, h20, h21, h22, h23⟩ hb; exact ⟨bcs hb h0, bfs hb h0 h1, bcs hb h2, bfs hb h2 h3, bcs hb h4, bfs hb h4 h5, bcs hb h6, bfs hb h6 h7, bcs hb h8, bfs hb h8 h9, bcs hb h10, bfs hb h10 h11, bcs hb h12, bfs hb h12 h13, bcs hb h14, bfs hb h14 h15, bcs hb h16, bfs hb h16 h17, bcs hb h18, bfs hb h18 h19, bcs hb h20, bfs hb h20 h21, bcs hb h22, bfs hb h22 h23⟩) ⟨by first | with_reducible assumption | go_simp, by first | with_reducible assumption | go_simp, by first | with_reducible assumption | go_simp, by first | with_reducible assumption | go_simp, by first | with_reducible assumption | go_simp, by first | with_reducible assumption | go_simp, by first | with_reducible assumption | go_simp, by first | with_reducible assumption | go_simp, by first | with_reducible assumption | go_simp, by first | with_reducible assumption | go_simp, by first | with_reducible assumption | go_simp, by first | with_reducible assumption | go_simp, by first | with_reducible assumption | go_simp, by first | with_reducible assumption | go_simp, by first | with_reducible assumption | go_simp, by first | with_reducible assumption | go_simp, by first | with_reducible assumption | go_simp, by first | with_reducible assumption | go_simp, by first | with_reducible assumption | go_simp, by first | with_reducible assumption | go_simp, by first | with_reducible assumption | go_simp, by first | with_reducible assumption | go_simp, by first | with_reducible assumption | go_simp, by first | with_reducible assumption | go_simp, by repeat (first | with_reducible exact Below.refl _ _ | fail | with_reducible apply below_drewN | with_reducible apply Below.drew | (with_reducible refine Below.alloc ?_ (by first | (simp; done) | (simp; omega) | omega) _) | (with_reducible refine Below.setCell ?_ (by first | (simp; done) | (simp; omega) | omega) _)), by first | with_reducible assumption | (simp; done) | (simp; omega)⟩ ?_ ?_
        · rintro W ⟨k1_b2_0, g1_b2_0, k1_b2_1, g1_b2_1, k1_b2_2, g1_b2_2, k1_b2_3, g1_b2_3, k1_b3_0, g1_b3_0, k1_b3_1, g1_b3_1, k1_b3_2, g1_b3_2, k1_b3_3, g1_b3_3, k1_b4_0, g1_b4_0, k1_b4_1, g1_b4_1, k1_b4_2, g1_b4_2, k1_b4_3, g1_b4_3, B1, z1⟩; exact ⟨k1_b2_0, g1_b2_0, k1_b2_1, g1_b2_1, k1_b2_2, g1_b2_2, k1_b2_3, g1_b2_3, k1_b3_0, g1_b3_0, k1_b3_1, g1_b3_1, k1_b3_2, g1_b3_2, k1_b3_3, g1_b3_3, k1_b4_0, g1_b4_0, k1_b4_1, g1_b4_1, k1_b4_2, g1_b4_2, k1_b4_3, g1_b4_3⟩
        rintro w1 ⟨k1_b2_0, g1_b2_0, k1_b2_1, g1_b2_1, k1_b2_2, g1_b2_2, k1_b2_3, g1_b2_3, k1_b3_0, g1_b3_0, k1_b3_1, g1_b3_1, k1_b3_2, g1_b3_2, k1_b3_3, g1_b3_3, k1_b4_0, g1_b4_0, k1_b4_1, g1_b4_1, k1_b4_2, g1_b4_2, k1_b4_3, g1_b4_3, B1, z1⟩ gg
        simp only [List.take_succ_cons, List.take_zero, List.drop_succ_cons, List.drop_zero, List.cons_append, List.nil_append, List.append_nil]
        refine obe_val (by rfl) ?_ ?_
        · clear k1_b2_0 g1_b2_0 k1_b2_1 g1_b2_1 k1_b2_2 g1_b2_2 k1_b2_3 g1_b2_3 k1_b3_0 g1_b3_0 k1_b3_1 g1_b3_1 k1_b3_2 g1_b3_2 k1_b3_3 g1_b3_3 k1_b4_0 g1_b4_0 k1_b4_1 g1_b4_1 k1_b4_2 g1_b4_2 k1_b4_3 g1_b4_3 B1 z1; intro f hf; have u2 : f 2 = (.pointer (some ⟨w.heap.size, 0, none⟩)) := (by rw [← hf]; rfl); clear hf; rintro w' ⟨h0, h1, h2, h3, h4, h5, h6, h7, h8, h9, h10, h11, h12, h13, h14, h15, h16, h17, h18, h19, h20, h21, h22, h23⟩; go_simp; try exact IntWalk.i64_in _ (by omega)
        refine obe_call (by rfl) ?_ ?_ ?_
        · clear k1_b2_0 g1_b2_0 k1_b2_1 g1_b2_1 k1_b2_2 g1_b2_2 k1_b2_3 g1_b2_3 k1_b3_0 g1_b3_0 k1_b3_1 g1_b3_1 k1_b3_2 g1_b3_2 k1_b3_3 g1_b3_3 k1_b4_0 g1_b4_0 k1_b4_1 g1_b4_1 k1_b4_2 g1_b4_2 k1_b4_3 g1_b4_3 B1 z1; intro f hf; have u5 : f 5 = (.agg #[.int .i64 a, .int .i64 b, .int .i64 c, .int .i64 d]) := (by rw [← hf]; rfl); clear hf; intro w' _; simp only [execOp, resolve, invoke, rhoF_tmp, rhoF_func, rhoF_const, u5, List.map_toArray, List.map_cons, List.map_nil]; go_simp
        · clear k1_b2_0 g1_b2_0 k1_b2_1 g1_b2_1 k1_b2_2 g1_b2_2 k1_b2_3 g1_b2_3 k1_b3_0 g1_b3_0 k1_b3_1 g1_b3_1 k1_b3_2 g1_b3_2 k1_b3_3 g1_b3_3 k1_b4_0 g1_b4_0 k1_b4_1 g1_b4_1 k1_b4_2 g1_b4_2 k1_b4_3 g1_b4_3 B1 z1; rintro w' ⟨h0, h1, h2, h3, h4, h5, h6, h7, h8, h9, h10, h11, h12, h13, h14, h15, h16, h17, h18, h19, h20, h21, h22, h23⟩; exact c1 _
        refine obe_val (by rfl) ?_ ?_
        · clear k1_b2_0 g1_b2_0 k1_b2_1 g1_b2_1 k1_b2_2 g1_b2_2 k1_b2_3 g1_b2_3 k1_b3_0 g1_b3_0 k1_b3_1 g1_b3_1 k1_b3_2 g1_b3_2 k1_b3_3 g1_b3_3 k1_b4_0 g1_b4_0 k1_b4_1 g1_b4_1 k1_b4_2 g1_b4_2 k1_b4_3 g1_b4_3 B1 z1; intro f hf; have u3 : f 3 = (.pointer (some ⟨w.heap.size + 1, 0, none⟩)) := (by rw [← hf]; rfl); clear hf; rintro w' ⟨h0, h1, h2, h3, h4, h5, h6, h7, h8, h9, h10, h11, h12, h13, h14, h15, h16, h17, h18, h19, h20, h21, h22, h23⟩; go_simp; try exact IntWalk.i64_in _ (by omega)
        refine obe_call (by rfl) ?_ ?_ ?_
        · clear k1_b2_0 g1_b2_0 k1_b2_1 g1_b2_1 k1_b2_2 g1_b2_2 k1_b2_3 g1_b2_3 k1_b3_0 g1_b3_0 k1_b3_1 g1_b3_1 k1_b3_2 g1_b3_2 k1_b3_3 g1_b3_3 k1_b4_0 g1_b4_0 k1_b4_1 g1_b4_1 k1_b4_2 g1_b4_2 k1_b4_3 g1_b4_3 B1 z1; intro f hf; have u7 : f 7 = (.agg #[.int .i64 s, .int .i64 t, .int .i64 u, .int .i64 v]) := (by rw [← hf]; rfl); clear hf; intro w' _; simp only [execOp, resolve, invoke, rhoF_tmp, rhoF_func, rhoF_const, u7, List.map_toArray, List.map_cons, List.map_nil]; go_simp
        · clear k1_b2_0 g1_b2_0 k1_b2_1 g1_b2_1 k1_b2_2 g1_b2_2 k1_b2_3 g1_b2_3 k1_b3_0 g1_b3_0 k1_b3_1 g1_b3_1 k1_b3_2 g1_b3_2 k1_b3_3 g1_b3_3 k1_b4_0 g1_b4_0 k1_b4_1 g1_b4_1 k1_b4_2 g1_b4_2 k1_b4_3 g1_b4_3 B1 z1; rintro w' ⟨h0, h1, h2, h3, h4, h5, h6, h7, h8, h9, h10, h11, h12, h13, h14, h15, h16, h17, h18, h19, h20, h21, h22, h23⟩; exact c2 _
        refine obe_nil ?_
        rintro w2 ⟨h0, h1, h2, h3, h4, h5, h6, h7, h8, h9, h10, h11, h12, h13, h14, h15, h16, h17, h18, h19, h20, h21, h22, h23⟩ hb2 hF
        (try simp only [List.nil_append, List.append_nil, List.cons_append] at hF)
        simp only [puts, putD, Act.put, List.setIfInBounds_toArray, List.set_cons_zero, List.set_cons_succ]
        clear hF
        have k2_b2_0 := bcs hb2 k1_b2_0
        have g2_b2_0 := bfs hb2 k1_b2_0 g1_b2_0
        have k2_b2_1 := bcs hb2 k1_b2_1
        have g2_b2_1 := bfs hb2 k1_b2_1 g1_b2_1
        have k2_b2_2 := bcs hb2 k1_b2_2
        have g2_b2_2 := bfs hb2 k1_b2_2 g1_b2_2
        have k2_b2_3 := bcs hb2 k1_b2_3
        have g2_b2_3 := bfs hb2 k1_b2_3 g1_b2_3
        have k2_b3_0 := bcs hb2 k1_b3_0
        have g2_b3_0 := bfs hb2 k1_b3_0 g1_b3_0
        have k2_b3_1 := bcs hb2 k1_b3_1
        have g2_b3_1 := bfs hb2 k1_b3_1 g1_b3_1
        have k2_b3_2 := bcs hb2 k1_b3_2
        have g2_b3_2 := bfs hb2 k1_b3_2 g1_b3_2
        have k2_b3_3 := bcs hb2 k1_b3_3
        have g2_b3_3 := bfs hb2 k1_b3_3 g1_b3_3
        have k2_b4_0 := bcs hb2 k1_b4_0
        have g2_b4_0 := bfs hb2 k1_b4_0 g1_b4_0
        have k2_b4_1 := bcs hb2 k1_b4_1
        have g2_b4_1 := bfs hb2 k1_b4_1 g1_b4_1
        have k2_b4_2 := bcs hb2 k1_b4_2
        have g2_b4_2 := bfs hb2 k1_b4_2 g1_b4_2
        have k2_b4_3 := bcs hb2 k1_b4_3
        have g2_b4_3 := bfs hb2 k1_b4_3 g1_b4_3
        clear h0 h1 h2 h3 h4 h5 h6 h7 h8 h9 h10 h11 h12 h13 h14 h15 h16 h17 h18 h19 h20 h21 h22 h23
        have B2 := bel_step B1 hb2
        have z2 := Nat.le_trans z1 hb2.size
        clear hb2
        (try clear B1)
        (try clear z1)
        (try clear k1_b2_0)
        (try clear g1_b2_0)
        (try clear k1_b2_1)
        (try clear g1_b2_1)
        (try clear k1_b2_2)
        (try clear g1_b2_2)
        (try clear k1_b2_3)
        (try clear g1_b2_3)
        (try clear k1_b3_0)
        (try clear g1_b3_0)
        (try clear k1_b3_1)
        (try clear g1_b3_1)
        (try clear k1_b3_2)
        (try clear g1_b3_2)
        (try clear k1_b3_3)
        (try clear g1_b3_3)
        (try clear k1_b4_0)
        (try clear g1_b4_0)
        (try clear k1_b4_1)
        (try clear g1_b4_1)
        (try clear k1_b4_2)
        (try clear g1_b4_2)
        (try clear k1_b4_3)
        (try clear g1_b4_3)
        (try clear q1_b2)
        (try clear x1_b2)
        (try clear y1_b2)
        (try clear q1_b3)
        (try clear x1_b3)
        (try clear y1_b3)
        (try clear q1_b4)
        (try clear x1_b4)
        (try clear y1_b4)
        have q2_b2 : w.heap.size < w2.heap.size := qlt k2_b2_0
        have x2_b2 : ¬ w.heap.size = w2.heap.size := qne k2_b2_0
        have y2_b2 : ¬ w2.heap.size = w.heap.size := fun h => qne k2_b2_0 h.symm
        have q2_b3 : w.heap.size + 1 < w2.heap.size := qlt k2_b3_0
        have x2_b3 : ¬ w.heap.size + 1 = w2.heap.size := qne k2_b3_0
        have y2_b3 : ¬ w2.heap.size = w.heap.size + 1 := fun h => qne k2_b3_0 h.symm
        have q2_b4 : w.heap.size + 1 + 1 < w2.heap.size := qlt k2_b4_0
        have x2_b4 : ¬ w.heap.size + 1 + 1 = w2.heap.size := qne k2_b4_0
        have y2_b4 : ¬ w2.heap.size = w.heap.size + 1 + 1 := fun h => qne k2_b4_0 h.symm
        go_wp2
        refine bodyPost_ret (v := .agg #[.int .i64 m0, .int .i64 m1, .int .i64 m2, .int .i64 m3]) (by simp [results, Try.results52, go_sem, *]) rfl ⟨rfl, ?_⟩
        repeat (first | with_reducible exact Below.refl _ _ | with_reducible exact B2 | with_reducible apply below_drewN | with_reducible apply Below.drew | (with_reducible refine Below.alloc ?_ (by first | (simp; done) | (simp; omega) | omega) _) | (with_reducible refine Below.setCell ?_ (by first | (simp; done) | (simp; omega) | omega) _))
      by_cases z1 : t = 0
      case neg =>
        have q0 : (s == 0) = true := by simpa using z0
        have q1 : (t == 0) = false := by simpa using z1
        clear z0 z1
        clear k k2
        go_enter Try.func52, Try.ntmps52
        go_wp2
        refine wp_region_env (fun w' => w'.cell? ⟨w.heap.size, 0, none⟩ = some (.int .i64 a) ∧ w'.frozen? ⟨w.heap.size, 0, none⟩ = false ∧ w'.cell? ⟨w.heap.size, 1, none⟩ = some (.int .i64 b) ∧ w'.frozen? ⟨w.heap.size, 1, none⟩ = false ∧ w'.cell? ⟨w.heap.size, 2, none⟩ = some (.int .i64 c) ∧ w'.frozen? ⟨w.heap.size, 2, none⟩ = false ∧ w'.cell? ⟨w.heap.size, 3, none⟩ = some (.int .i64 d) ∧ w'.frozen? ⟨w.heap.size, 3, none⟩ = false ∧ w'.cell? ⟨w.heap.size + 1, 0, none⟩ = some (.int .i64 s) ∧ w'.frozen? ⟨w.heap.size + 1, 0, none⟩ = false ∧ w'.cell? ⟨w.heap.size + 1, 1, none⟩ = some (.int .i64 t) ∧ w'.frozen? ⟨w.heap.size + 1, 1, none⟩ = false ∧ w'.cell? ⟨w.heap.size + 1, 2, none⟩ = some (.int .i64 u) ∧ w'.frozen? ⟨w.heap.size + 1, 2, none⟩ = false ∧ w'.cell? ⟨w.heap.size + 1, 3, none⟩ = some (.int .i64 v) ∧ w'.frozen? ⟨w.heap.size + 1, 3, none⟩ = false ∧ w'.cell? ⟨w.heap.size + 1 + 1, 0, none⟩ = some (.int .i64 0) ∧ w'.frozen? ⟨w.heap.size + 1 + 1, 0, none⟩ = false ∧ w'.cell? ⟨w.heap.size + 1 + 1, 1, none⟩ = some (.int .i64 0) ∧ w'.frozen? ⟨w.heap.size + 1 + 1, 1, none⟩ = false ∧ w'.cell? ⟨w.heap.size + 1 + 1, 2, none⟩ = some (.int .i64 0) ∧ w'.frozen? ⟨w.heap.size + 1 + 1, 2, none⟩ = false ∧ w'.cell? ⟨w.heap.size + 1 + 1, 3, none⟩ = some (.int .i64 0) ∧ w'.frozen? ⟨w.heap.size + 1 + 1, 3, none⟩ = false) (fun W => W.cell? ⟨w.heap.size, 0, none⟩ = some (.int .i64 a) ∧ W.frozen? ⟨w.heap.size, 0, none⟩ = false ∧ W.cell? ⟨w.heap.size, 1, none⟩ = some (.int .i64 b) ∧ W.frozen? ⟨w.heap.size, 1, none⟩ = false ∧ W.cell? ⟨w.heap.size, 2, none⟩ = some (.int .i64 c) ∧ W.frozen? ⟨w.heap.size, 2, none⟩ = false ∧ W.cell? ⟨w.heap.size, 3, none⟩ = some (.int .i64 d) ∧ W.frozen? ⟨w.heap.size, 3, none⟩ = false ∧ W.cell? ⟨w.heap.size + 1, 0, none⟩ = some (.int .i64 s) ∧ W.frozen? ⟨w.heap.size + 1, 0, none⟩ = false ∧ W.cell? ⟨w.heap.size + 1, 1, none⟩ = some (.int .i64 t) ∧ W.frozen? ⟨w.heap.size + 1, 1, none⟩ = false ∧ W.cell? ⟨w.heap.size + 1, 2, none⟩ = some (.int .i64 u) ∧ W.frozen? ⟨w.heap.size + 1, 2, none⟩ = false ∧ W.cell? ⟨w.heap.size + 1, 3, none⟩ = some (.int .i64 v) ∧ W.frozen? ⟨w.heap.size + 1, 3, none⟩ = false ∧ W.cell? ⟨w.heap.size + 1 + 1, 0, none⟩ = some (.int .i64 0) ∧ W.frozen? ⟨w.heap.size + 1 + 1, 0, none⟩ = false ∧ W.cell? ⟨w.heap.size + 1 + 1, 1, none⟩ = some (.int .i64 0) ∧ W.frozen? ⟨w.heap.size + 1 + 1, 1, none⟩ = false ∧ W.cell? ⟨w.heap.size + 1 + 1, 2, none⟩ = some (.int .i64 0) ∧ W.frozen? ⟨w.heap.size + 1 + 1, 2, none⟩ = false ∧ W.cell? ⟨w.heap.size + 1 + 1, 3, none⟩ = some (.int .i64 0) ∧ W.frozen? ⟨w.heap.size + 1 + 1, 3, none⟩ = false ∧ Below w.heap.size w W ∧ w.heap.size + 1 + 1 + 1 ≤ W.heap.size) 4 40 [.val (.agg #[.int .i64 a, .int .i64 b, .int .i64 c, .int .i64 d]), .call 48 #[.agg #[.int .i64 a, .int .i64 b, .int .i64 c, .int .i64 d]] (.agg #[.int .i64 a, .int .i64 b, .int .i64 c, .int .i64 d]), .val (.agg #[.int .i64 s, .int .i64 t, .int .i64 u, .int .i64 v]), .call 48 #[.agg #[.int .i64 s, .int .i64 t, .int .i64 u, .int .i64 v]] (.agg #[.int .i64 s, .int .i64 t, .int .i64 u, .int .i64 v])] (by kernel_rfl) (by kernel_rfl) rfl (by kernel_rfl) (by rintro w1 w2 ⟨h0, h1, h2, h3, h4, h5, h6, h7, h8, h9, h10, h11, h12, h13, h14, h15, h16, h17, h18, h19, h20, h21, h22, h23⟩ hb; exact ⟨bcs hb h0, bfs hb h0 h1, bcs hb h2, bfs hb h2 h3, bcs hb h4, bfs hb h4 h5, bcs hb h6, bfs hb h6 h7, bcs hb h8, bfs hb h8 h9, bcs hb h10, bfs hb h10 h11, bcs hb h12, bfs hb h12 h13, bcs hb h14, bfs hb h14 h15, bcs hb h16, bfs hb h16 h17, bcs hb h18, bfs hb h18 h19, bcs hb h20, bfs hb h20 h21, bcs hb h22, bfs hb h22 h23⟩) ⟨by first | with_reducible assumption | go_simp, by first | with_reducible assumption | go_simp, by first | with_reducible assumption | go_simp, by first | with_reducible assumption | go_simp, by first | with_reducible assumption | go_simp, by first | with_reducible assumption | go_simp, by first | with_reducible assumption | go_simp, by first | with_reducible assumption | go_simp, by first | with_reducible assumption | go_simp, by first | with_reducible assumption | go_simp, by first | with_reducible assumption | go_simp, by first | with_reducible assumption | go_simp, by first | with_reducible assumption | go_simp, by first | with_reducible assumption | go_simp, by first | with_reducible assumption | go_simp, by first | with_reducible assumption | go_simp, by first | with_reducible assumption | go_simp, by first | with_reducible assumption | go_simp, by first | with_reducible assumption | go_simp, by first | with_reducible assumption | go_simp, by first | with_reducible assumption | go_simp, by first | with_reducible assumption | go_simp, by first | with_reducible assumption | go_simp, by first | with_reducible assumption | go_simp, by repeat (first | with_reducible exact Below.refl _ _ | fail | with_reducible apply below_drewN | with_reducible apply Below.drew | (with_reducible refine Below.alloc ?_ (by first | (simp; done) | (simp; omega) | omega) _) | (with_reducible refine Below.setCell ?_ (by first | (simp; done) | (simp; omega) | omega) _)), by first | with_reducible assumption | (simp; done) | (simp; omega)⟩ ?_ ?_
        · rintro W ⟨k1_b2_0, g1_b2_0, k1_b2_1, g1_b2_1, k1_b2_2, g1_b2_2, k1_b2_3, g1_b2_3, k1_b3_0, g1_b3_0, k1_b3_1, g1_b3_1, k1_b3_2, g1_b3_2, k1_b3_3, g1_b3_3, k1_b4_0, g1_b4_0, k1_b4_1, g1_b4_1, k1_b4_2, g1_b4_2, k1_b4_3, g1_b4_3, B1, z1⟩; exact ⟨k1_b2_0, g1_b2_0, k1_b2_1, g1_b2_1, k1_b2_2, g1_b2_2, k1_b2_3, g1_b2_3, k1_b3_0, g1_b3_0, k1_b3_1, g1_b3_1, k1_b3_2, g1_b3_2, k1_b3_3, g1_b3_3, k1_b4_0, g1_b4_0, k1_b4_1, g1_b4_1, k1_b4_2, g1_b4_2, k1_b4_3, g1_b4_3⟩
        rintro w1 ⟨k1_b2_0, g1_b2_0, k1_b2_1, g1_b2_1, k1_b2_2, g1_b2_2, k1_b2_3, g1_b2_3, k1_b3_0, g1_b3_0, k1_b3_1, g1_b3_1, k1_b3_2, g1_b3_2, k1_b3_3, g1_b3_3, k1_b4_0, g1_b4_0, k1_b4_1, g1_b4_1, k1_b4_2, g1_b4_2, k1_b4_3, g1_b4_3, B1, z1⟩ gg
        simp only [List.take_succ_cons, List.take_zero, List.drop_succ_cons, List.drop_zero, List.cons_append, List.nil_append, List.append_nil]
        refine obe_val (by rfl) ?_ ?_
        · clear k1_b2_0 g1_b2_0 k1_b2_1 g1_b2_1 k1_b2_2 g1_b2_2 k1_b2_3 g1_b2_3 k1_b3_0 g1_b3_0 k1_b3_1 g1_b3_1 k1_b3_2 g1_b3_2 k1_b3_3 g1_b3_3 k1_b4_0 g1_b4_0 k1_b4_1 g1_b4_1 k1_b4_2 g1_b4_2 k1_b4_3 g1_b4_3 B1 z1; intro f hf; have u2 : f 2 = (.pointer (some ⟨w.heap.size, 0, none⟩)) := (by rw [← hf]; rfl); clear hf; rintro w' ⟨h0, h1, h2, h3, h4, h5, h6, h7, h8, h9, h10, h11, h12, h13, h14, h15, h16, h17, h18, h19, h20, h21, h22, h23⟩; go_simp; try exact IntWalk.i64_in _ (by omega)
        refine obe_call (by rfl) ?_ ?_ ?_
        · clear k1_b2_0 g1_b2_0 k1_b2_1 g1_b2_1 k1_b2_2 g1_b2_2 k1_b2_3 g1_b2_3 k1_b3_0 g1_b3_0 k1_b3_1 g1_b3_1 k1_b3_2 g1_b3_2 k1_b3_3 g1_b3_3 k1_b4_0 g1_b4_0 k1_b4_1 g1_b4_1 k1_b4_2 g1_b4_2 k1_b4_3 g1_b4_3 B1 z1; intro f hf; have u5 : f 5 = (.agg #[.int .i64 a, .int .i64 b, .int .i64 c, .int .i64 d]) := (by rw [← hf]; rfl); clear hf; intro w' _; simp only [execOp, resolve, invoke, rhoF_tmp, rhoF_func, rhoF_const, u5, List.map_toArray, List.map_cons, List.map_nil]; go_simp
        · clear k1_b2_0 g1_b2_0 k1_b2_1 g1_b2_1 k1_b2_2 g1_b2_2 k1_b2_3 g1_b2_3 k1_b3_0 g1_b3_0 k1_b3_1 g1_b3_1 k1_b3_2 g1_b3_2 k1_b3_3 g1_b3_3 k1_b4_0 g1_b4_0 k1_b4_1 g1_b4_1 k1_b4_2 g1_b4_2 k1_b4_3 g1_b4_3 B1 z1; rintro w' ⟨h0, h1, h2, h3, h4, h5, h6, h7, h8, h9, h10, h11, h12, h13, h14, h15, h16, h17, h18, h19, h20, h21, h22, h23⟩; exact c1 _
        refine obe_val (by rfl) ?_ ?_
        · clear k1_b2_0 g1_b2_0 k1_b2_1 g1_b2_1 k1_b2_2 g1_b2_2 k1_b2_3 g1_b2_3 k1_b3_0 g1_b3_0 k1_b3_1 g1_b3_1 k1_b3_2 g1_b3_2 k1_b3_3 g1_b3_3 k1_b4_0 g1_b4_0 k1_b4_1 g1_b4_1 k1_b4_2 g1_b4_2 k1_b4_3 g1_b4_3 B1 z1; intro f hf; have u3 : f 3 = (.pointer (some ⟨w.heap.size + 1, 0, none⟩)) := (by rw [← hf]; rfl); clear hf; rintro w' ⟨h0, h1, h2, h3, h4, h5, h6, h7, h8, h9, h10, h11, h12, h13, h14, h15, h16, h17, h18, h19, h20, h21, h22, h23⟩; go_simp; try exact IntWalk.i64_in _ (by omega)
        refine obe_call (by rfl) ?_ ?_ ?_
        · clear k1_b2_0 g1_b2_0 k1_b2_1 g1_b2_1 k1_b2_2 g1_b2_2 k1_b2_3 g1_b2_3 k1_b3_0 g1_b3_0 k1_b3_1 g1_b3_1 k1_b3_2 g1_b3_2 k1_b3_3 g1_b3_3 k1_b4_0 g1_b4_0 k1_b4_1 g1_b4_1 k1_b4_2 g1_b4_2 k1_b4_3 g1_b4_3 B1 z1; intro f hf; have u7 : f 7 = (.agg #[.int .i64 s, .int .i64 t, .int .i64 u, .int .i64 v]) := (by rw [← hf]; rfl); clear hf; intro w' _; simp only [execOp, resolve, invoke, rhoF_tmp, rhoF_func, rhoF_const, u7, List.map_toArray, List.map_cons, List.map_nil]; go_simp
        · clear k1_b2_0 g1_b2_0 k1_b2_1 g1_b2_1 k1_b2_2 g1_b2_2 k1_b2_3 g1_b2_3 k1_b3_0 g1_b3_0 k1_b3_1 g1_b3_1 k1_b3_2 g1_b3_2 k1_b3_3 g1_b3_3 k1_b4_0 g1_b4_0 k1_b4_1 g1_b4_1 k1_b4_2 g1_b4_2 k1_b4_3 g1_b4_3 B1 z1; rintro w' ⟨h0, h1, h2, h3, h4, h5, h6, h7, h8, h9, h10, h11, h12, h13, h14, h15, h16, h17, h18, h19, h20, h21, h22, h23⟩; exact c2 _
        refine obe_nil ?_
        rintro w2 ⟨h0, h1, h2, h3, h4, h5, h6, h7, h8, h9, h10, h11, h12, h13, h14, h15, h16, h17, h18, h19, h20, h21, h22, h23⟩ hb2 hF
        (try simp only [List.nil_append, List.append_nil, List.cons_append] at hF)
        simp only [puts, putD, Act.put, List.setIfInBounds_toArray, List.set_cons_zero, List.set_cons_succ]
        clear hF
        have k2_b2_0 := bcs hb2 k1_b2_0
        have g2_b2_0 := bfs hb2 k1_b2_0 g1_b2_0
        have k2_b2_1 := bcs hb2 k1_b2_1
        have g2_b2_1 := bfs hb2 k1_b2_1 g1_b2_1
        have k2_b2_2 := bcs hb2 k1_b2_2
        have g2_b2_2 := bfs hb2 k1_b2_2 g1_b2_2
        have k2_b2_3 := bcs hb2 k1_b2_3
        have g2_b2_3 := bfs hb2 k1_b2_3 g1_b2_3
        have k2_b3_0 := bcs hb2 k1_b3_0
        have g2_b3_0 := bfs hb2 k1_b3_0 g1_b3_0
        have k2_b3_1 := bcs hb2 k1_b3_1
        have g2_b3_1 := bfs hb2 k1_b3_1 g1_b3_1
        have k2_b3_2 := bcs hb2 k1_b3_2
        have g2_b3_2 := bfs hb2 k1_b3_2 g1_b3_2
        have k2_b3_3 := bcs hb2 k1_b3_3
        have g2_b3_3 := bfs hb2 k1_b3_3 g1_b3_3
        have k2_b4_0 := bcs hb2 k1_b4_0
        have g2_b4_0 := bfs hb2 k1_b4_0 g1_b4_0
        have k2_b4_1 := bcs hb2 k1_b4_1
        have g2_b4_1 := bfs hb2 k1_b4_1 g1_b4_1
        have k2_b4_2 := bcs hb2 k1_b4_2
        have g2_b4_2 := bfs hb2 k1_b4_2 g1_b4_2
        have k2_b4_3 := bcs hb2 k1_b4_3
        have g2_b4_3 := bfs hb2 k1_b4_3 g1_b4_3
        clear h0 h1 h2 h3 h4 h5 h6 h7 h8 h9 h10 h11 h12 h13 h14 h15 h16 h17 h18 h19 h20 h21 h22 h23
        have B2 := bel_step B1 hb2
        have z2 := Nat.le_trans z1 hb2.size
        clear hb2
        (try clear B1)
        (try clear z1)
        (try clear k1_b2_0)
        (try clear g1_b2_0)
        (try clear k1_b2_1)
        (try clear g1_b2_1)
        (try clear k1_b2_2)
        (try clear g1_b2_2)
        (try clear k1_b2_3)
        (try clear g1_b2_3)
        (try clear k1_b3_0)
        (try clear g1_b3_0)
        (try clear k1_b3_1)
        (try clear g1_b3_1)
        (try clear k1_b3_2)
        (try clear g1_b3_2)
        (try clear k1_b3_3)
        (try clear g1_b3_3)
        (try clear k1_b4_0)
        (try clear g1_b4_0)
        (try clear k1_b4_1)
        (try clear g1_b4_1)
        (try clear k1_b4_2)
        (try clear g1_b4_2)
        (try clear k1_b4_3)
        (try clear g1_b4_3)
        (try clear q1_b2)
        (try clear x1_b2)
        (try clear y1_b2)
        (try clear q1_b3)
        (try clear x1_b3)
        (try clear y1_b3)
        (try clear q1_b4)
        (try clear x1_b4)
        (try clear y1_b4)
        have q2_b2 : w.heap.size < w2.heap.size := qlt k2_b2_0
        have x2_b2 : ¬ w.heap.size = w2.heap.size := qne k2_b2_0
        have y2_b2 : ¬ w2.heap.size = w.heap.size := fun h => qne k2_b2_0 h.symm
        have q2_b3 : w.heap.size + 1 < w2.heap.size := qlt k2_b3_0
        have x2_b3 : ¬ w.heap.size + 1 = w2.heap.size := qne k2_b3_0
        have y2_b3 : ¬ w2.heap.size = w.heap.size + 1 := fun h => qne k2_b3_0 h.symm
        have q2_b4 : w.heap.size + 1 + 1 < w2.heap.size := qlt k2_b4_0
        have x2_b4 : ¬ w.heap.size + 1 + 1 = w2.heap.size := qne k2_b4_0
        have y2_b4 : ¬ w2.heap.size = w.heap.size + 1 + 1 := fun h => qne k2_b4_0 h.symm
        go_wp2
        refine bodyPost_ret (v := .agg #[.int .i64 m0, .int .i64 m1, .int .i64 m2, .int .i64 m3]) (by simp [results, Try.results52, go_sem, *]) rfl ⟨rfl, ?_⟩
        repeat (first | with_reducible exact Below.refl _ _ | with_reducible exact B2 | with_reducible apply below_drewN | with_reducible apply Below.drew | (with_reducible refine Below.alloc ?_ (by first | (simp; done) | (simp; omega) | omega) _) | (with_reducible refine Below.setCell ?_ (by first | (simp; done) | (simp; omega) | omega) _))
      have q2 : (u == 0) = false := by simp; omega
      have q0 : (s == 0) = true := by simpa using z0
      have q1 : (t == 0) = true := by simpa using z1
      clear z0 z1
      clear k k2
      go_enter Try.func52, Try.ntmps52
      go_wp2
      refine wp_region_env (fun w' => w'.cell? ⟨w.heap.size, 0, none⟩ = some (.int .i64 a) ∧ w'.frozen? ⟨w.heap.size, 0, none⟩ = false ∧ w'.cell? ⟨w.heap.size, 1, none⟩ = some (.int .i64 b) ∧ w'.frozen? ⟨w.heap.size, 1, none⟩ = false ∧ w'.cell? ⟨w.heap.size, 2, none⟩ = some (.int .i64 c) ∧ w'.frozen? ⟨w.heap.size, 2, none⟩ = false ∧ w'.cell? ⟨w.heap.size, 3, none⟩ = some (.int .i64 d) ∧ w'.frozen? ⟨w.heap.size, 3, none⟩ = false ∧ w'.cell? ⟨w.heap.size + 1, 0, none⟩ = some (.int .i64 s) ∧ w'.frozen? ⟨w.heap.size + 1, 0, none⟩ = false ∧ w'.cell? ⟨w.heap.size + 1, 1, none⟩ = some (.int .i64 t) ∧ w'.frozen? ⟨w.heap.size + 1, 1, none⟩ = false ∧ w'.cell? ⟨w.heap.size + 1, 2, none⟩ = some (.int .i64 u) ∧ w'.frozen? ⟨w.heap.size + 1, 2, none⟩ = false ∧ w'.cell? ⟨w.heap.size + 1, 3, none⟩ = some (.int .i64 v) ∧ w'.frozen? ⟨w.heap.size + 1, 3, none⟩ = false ∧ w'.cell? ⟨w.heap.size + 1 + 1, 0, none⟩ = some (.int .i64 0) ∧ w'.frozen? ⟨w.heap.size + 1 + 1, 0, none⟩ = false ∧ w'.cell? ⟨w.heap.size + 1 + 1, 1, none⟩ = some (.int .i64 0) ∧ w'.frozen? ⟨w.heap.size + 1 + 1, 1, none⟩ = false ∧ w'.cell? ⟨w.heap.size + 1 + 1, 2, none⟩ = some (.int .i64 0) ∧ w'.frozen? ⟨w.heap.size + 1 + 1, 2, none⟩ = false ∧ w'.cell? ⟨w.heap.size + 1 + 1, 3, none⟩ = some (.int .i64 0) ∧ w'.frozen? ⟨w.heap.size + 1 + 1, 3, none⟩ = false) (fun W => W.cell? ⟨w.heap.size, 0, none⟩ = some (.int .i64 a) ∧ W.frozen? ⟨w.heap.size, 0, none⟩ = false ∧ W.cell? ⟨w.heap.size, 1, none⟩ = some (.int .i64 b) ∧ W.frozen? ⟨w.heap.size, 1, none⟩ = false ∧ W.cell? ⟨w.heap.size, 2, none⟩ = some (.int .i64 c) ∧ W.frozen? ⟨w.heap.size, 2, none⟩ = false ∧ W.cell? ⟨w.heap.size, 3, none⟩ = some (.int .i64 d) ∧ W.frozen? ⟨w.heap.size, 3, none⟩ = false ∧ W.cell? ⟨w.heap.size + 1, 0, none⟩ = some (.int .i64 s) ∧ W.frozen? ⟨w.heap.size + 1, 0, none⟩ = false ∧ W.cell? ⟨w.heap.size + 1, 1, none⟩ = some (.int .i64 t) ∧ W.frozen? ⟨w.heap.size + 1, 1, none⟩ = false ∧ W.cell? ⟨w.heap.size + 1, 2, none⟩ = some (.int .i64 u) ∧ W.frozen? ⟨w.heap.size + 1, 2, none⟩ = false ∧ W.cell? ⟨w.heap.size + 1, 3, none⟩ = some (.int .i64 v) ∧ W.frozen? ⟨w.heap.size + 1, 3, none⟩ = false ∧ W.cell? ⟨w.heap.size + 1 + 1, 0, none⟩ = some (.int .i64 0) ∧ W.frozen? ⟨w.heap.size + 1 + 1, 0, none⟩ = false ∧ W.cell? ⟨w.heap.size + 1 + 1, 1, none⟩ = some (.int .i64 0) ∧ W.frozen? ⟨w.heap.size + 1 + 1, 1, none⟩ = false ∧ W.cell? ⟨w.heap.size + 1 + 1, 2, none⟩ = some (.int .i64 0) ∧ W.frozen? ⟨w.heap.size + 1 + 1, 2, none⟩ = false ∧ W.cell? ⟨w.heap.size + 1 + 1, 3, none⟩ = some (.int .i64 0) ∧ W.frozen? ⟨w.heap.size + 1 + 1, 3, none⟩ = false ∧ Below w.heap.size w W ∧ w.heap.size + 1 + 1 + 1 ≤ W.heap.size) 4 40 [.val (.agg #[.int .i64 a, .int .i64 b, .int .i64 c, .int .i64 d]), .call 48 #[.agg #[.int .i64 a, .int .i64 b, .int .i64 c, .int .i64 d]] (.agg #[.int .i64 a, .int .i64 b, .int .i64 c, .int .i64 d]), .val (.agg #[.int .i64 s, .int .i64 t, .int .i64 u, .int .i64 v]), .call 48 #[.agg #[.int .i64 s, .int .i64 t, .int .i64 u, .int .i64 v]] (.agg #[.int .i64 s, .int .i64 t, .int .i64 u, .int .i64 v])] (by kernel_rfl) (by kernel_rfl) rfl (by kernel_rfl) (by rintro w1 w2 ⟨h0, h1, h2, h3, h4, h5, h6, h7, h8, h9, h10, h11, h12, h13, h14, h15, h16, h17, h18, h19, h20, h21, h22, h23⟩ hb; exact ⟨bcs hb h0, bfs hb h0 h1, bcs hb h2, bfs hb h2 h3, bcs hb h4, bfs hb h4 h5, bcs hb h6, bfs hb h6 h7, bcs hb h8, bfs hb h8 h9, bcs hb h10, bfs hb h10 h11, bcs hb h12, bfs hb h12 h13, bcs hb h14, bfs hb h14 h15, bcs hb h16, bfs hb h16 h17, bcs hb h18, bfs hb h18 h19, bcs hb h20, bfs hb h20 h21, bcs hb h22, bfs hb h22 h23⟩) ⟨by first | with_reducible assumption | go_simp, by first | with_reducible assumption | go_simp, by first | with_reducible assumption | go_simp, by first | with_reducible assumption | go_simp, by first | with_reducible assumption | go_simp, by first | with_reducible assumption | go_simp, by first | with_reducible assumption | go_simp, by first | with_reducible assumption | go_simp, by first | with_reducible assumption | go_simp, by first | with_reducible assumption | go_simp, by first | with_reducible assumption | go_simp, by first | with_reducible assumption | go_simp, by first | with_reducible assumption | go_simp, by first | with_reducible assumption | go_simp, by first | with_reducible assumption | go_simp, by first | with_reducible assumption | go_simp, by first | with_reducible assumption | go_simp, by first | with_reducible assumption | go_simp, by first | with_reducible assumption | go_simp, by first | with_reducible assumption | go_simp, by first | with_reducible assumption | go_simp, by first | with_reducible assumption | go_simp, by first | with_reducible assumption | go_simp, by first | with_reducible assumption | go_simp, by repeat (first | with_reducible exact Below.refl _ _ | fail | with_reducible apply below_drewN | with_reducible apply Below.drew | (with_reducible refine Below.alloc ?_ (by first | (simp; done) | (simp; omega) | omega) _) | (with_reducible refine Below.setCell ?_ (by first | (simp; done) | (simp; omega) | omega) _)), by first | with_reducible assumption | (simp; done) | (simp; omega)⟩ ?_ ?_
      · rintro W ⟨k1_b2_0, g1_b2_0, k1_b2_1, g1_b2_1, k1_b2_2, g1_b2_2, k1_b2_3, g1_b2_3, k1_b3_0, g1_b3_0, k1_b3_1, g1_b3_1, k1_b3_2, g1_b3_2, k1_b3_3, g1_b3_3, k1_b4_0, g1_b4_0, k1_b4_1, g1_b4_1, k1_b4_2, g1_b4_2, k1_b4_3, g1_b4_3, B1, z1⟩; exact ⟨k1_b2_0, g1_b2_0, k1_b2_1, g1_b2_1, k1_b2_2, g1_b2_2, k1_b2_3, g1_b2_3, k1_b3_0, g1_b3_0, k1_b3_1, g1_b3_1, k1_b3_2, g1_b3_2, k1_b3_3, g1_b3_3, k1_b4_0, g1_b4_0, k1_b4_1, g1_b4_1, k1_b4_2, g1_b4_2, k1_b4_3, g1_b4_3⟩
      rintro w1 ⟨k1_b2_0, g1_b2_0, k1_b2_1, g1_b2_1, k1_b2_2, g1_b2_2, k1_b2_3, g1_b2_3, k1_b3_0, g1_b3_0, k1_b3_1, g1_b3_1, k1_b3_2, g1_b3_2, k1_b3_3, g1_b3_3, k1_b4_0, g1_b4_0, k1_b4_1, g1_b4_1, k1_b4_2, g1_b4_2, k1_b4_3, g1_b4_3, B1, z1⟩ gg
      simp only [List.take_succ_cons, List.take_zero, List.drop_succ_cons, List.drop_zero, List.cons_append, List.nil_append, List.append_nil]
      refine obe_val (by rfl) ?_ ?_
      · clear k1_b2_0 g1_b2_0 k1_b2_1 g1_b2_1 k1_b2_2 g1_b2_2 k1_b2_3 g1_b2_3 k1_b3_0 g1_b3_0 k1_b3_1 g1_b3_1 k1_b3_2 g1_b3_2 k1_b3_3 g1_b3_3 k1_b4_0 g1_b4_0 k1_b4_1 g1_b4_1 k1_b4_2 g1_b4_2 k1_b4_3 g1_b4_3 B1 z1; intro f hf; have u2 : f 2 = (.pointer (some ⟨w.heap.size, 0, none⟩)) := (by rw [← hf]; rfl); clear hf; rintro w' ⟨h0, h1, h2, h3, h4, h5, h6, h7, h8, h9, h10, h11, h12, h13, h14, h15, h16, h17, h18, h19, h20, h21, h22, h23⟩; go_simp; try exact IntWalk.i64_in _ (by omega)
      refine obe_call (by rfl) ?_ ?_ ?_
      · clear k1_b2_0 g1_b2_0 k1_b2_1 g1_b2_1 k1_b2_2 g1_b2_2 k1_b2_3 g1_b2_3 k1_b3_0 g1_b3_0 k1_b3_1 g1_b3_1 k1_b3_2 g1_b3_2 k1_b3_3 g1_b3_3 k1_b4_0 g1_b4_0 k1_b4_1 g1_b4_1 k1_b4_2 g1_b4_2 k1_b4_3 g1_b4_3 B1 z1; intro f hf; have u5 : f 5 = (.agg #[.int .i64 a, .int .i64 b, .int .i64 c, .int .i64 d]) := (by rw [← hf]; rfl); clear hf; intro w' _; simp only [execOp, resolve, invoke, rhoF_tmp, rhoF_func, rhoF_const, u5, List.map_toArray, List.map_cons, List.map_nil]; go_simp
      · clear k1_b2_0 g1_b2_0 k1_b2_1 g1_b2_1 k1_b2_2 g1_b2_2 k1_b2_3 g1_b2_3 k1_b3_0 g1_b3_0 k1_b3_1 g1_b3_1 k1_b3_2 g1_b3_2 k1_b3_3 g1_b3_3 k1_b4_0 g1_b4_0 k1_b4_1 g1_b4_1 k1_b4_2 g1_b4_2 k1_b4_3 g1_b4_3 B1 z1; rintro w' ⟨h0, h1, h2, h3, h4, h5, h6, h7, h8, h9, h10, h11, h12, h13, h14, h15, h16, h17, h18, h19, h20, h21, h22, h23⟩; exact c1 _
      refine obe_val (by rfl) ?_ ?_
      · clear k1_b2_0 g1_b2_0 k1_b2_1 g1_b2_1 k1_b2_2 g1_b2_2 k1_b2_3 g1_b2_3 k1_b3_0 g1_b3_0 k1_b3_1 g1_b3_1 k1_b3_2 g1_b3_2 k1_b3_3 g1_b3_3 k1_b4_0 g1_b4_0 k1_b4_1 g1_b4_1 k1_b4_2 g1_b4_2 k1_b4_3 g1_b4_3 B1 z1; intro f hf; have u3 : f 3 = (.pointer (some ⟨w.heap.size + 1, 0, none⟩)) := (by rw [← hf]; rfl); clear hf; rintro w' ⟨h0, h1, h2, h3, h4, h5, h6, h7, h8, h9, h10, h11, h12, h13, h14, h15, h16, h17, h18, h19, h20, h21, h22, h23⟩; go_simp; try exact IntWalk.i64_in _ (by omega)
      refine obe_call (by rfl) ?_ ?_ ?_
      · clear k1_b2_0 g1_b2_0 k1_b2_1 g1_b2_1 k1_b2_2 g1_b2_2 k1_b2_3 g1_b2_3 k1_b3_0 g1_b3_0 k1_b3_1 g1_b3_1 k1_b3_2 g1_b3_2 k1_b3_3 g1_b3_3 k1_b4_0 g1_b4_0 k1_b4_1 g1_b4_1 k1_b4_2 g1_b4_2 k1_b4_3 g1_b4_3 B1 z1; intro f hf; have u7 : f 7 = (.agg #[.int .i64 s, .int .i64 t, .int .i64 u, .int .i64 v]) := (by rw [← hf]; rfl); clear hf; intro w' _; simp only [execOp, resolve, invoke, rhoF_tmp, rhoF_func, rhoF_const, u7, List.map_toArray, List.map_cons, List.map_nil]; go_simp
      · clear k1_b2_0 g1_b2_0 k1_b2_1 g1_b2_1 k1_b2_2 g1_b2_2 k1_b2_3 g1_b2_3 k1_b3_0 g1_b3_0 k1_b3_1 g1_b3_1 k1_b3_2 g1_b3_2 k1_b3_3 g1_b3_3 k1_b4_0 g1_b4_0 k1_b4_1 g1_b4_1 k1_b4_2 g1_b4_2 k1_b4_3 g1_b4_3 B1 z1; rintro w' ⟨h0, h1, h2, h3, h4, h5, h6, h7, h8, h9, h10, h11, h12, h13, h14, h15, h16, h17, h18, h19, h20, h21, h22, h23⟩; exact c2 _
      refine obe_nil ?_
      rintro w2 ⟨h0, h1, h2, h3, h4, h5, h6, h7, h8, h9, h10, h11, h12, h13, h14, h15, h16, h17, h18, h19, h20, h21, h22, h23⟩ hb2 hF
      (try simp only [List.nil_append, List.append_nil, List.cons_append] at hF)
      simp only [puts, putD, Act.put, List.setIfInBounds_toArray, List.set_cons_zero, List.set_cons_succ]
      clear hF
      have k2_b2_0 := bcs hb2 k1_b2_0
      have g2_b2_0 := bfs hb2 k1_b2_0 g1_b2_0
      have k2_b2_1 := bcs hb2 k1_b2_1
      have g2_b2_1 := bfs hb2 k1_b2_1 g1_b2_1
      have k2_b2_2 := bcs hb2 k1_b2_2
      have g2_b2_2 := bfs hb2 k1_b2_2 g1_b2_2
      have k2_b2_3 := bcs hb2 k1_b2_3
      have g2_b2_3 := bfs hb2 k1_b2_3 g1_b2_3
      have k2_b3_0 := bcs hb2 k1_b3_0
      have g2_b3_0 := bfs hb2 k1_b3_0 g1_b3_0
      have k2_b3_1 := bcs hb2 k1_b3_1
      have g2_b3_1 := bfs hb2 k1_b3_1 g1_b3_1
      have k2_b3_2 := bcs hb2 k1_b3_2
      have g2_b3_2 := bfs hb2 k1_b3_2 g1_b3_2
      have k2_b3_3 := bcs hb2 k1_b3_3
      have g2_b3_3 := bfs hb2 k1_b3_3 g1_b3_3
      have k2_b4_0 := bcs hb2 k1_b4_0
      have g2_b4_0 := bfs hb2 k1_b4_0 g1_b4_0
      have k2_b4_1 := bcs hb2 k1_b4_1
      have g2_b4_1 := bfs hb2 k1_b4_1 g1_b4_1
      have k2_b4_2 := bcs hb2 k1_b4_2
      have g2_b4_2 := bfs hb2 k1_b4_2 g1_b4_2
      have k2_b4_3 := bcs hb2 k1_b4_3
      have g2_b4_3 := bfs hb2 k1_b4_3 g1_b4_3
      clear h0 h1 h2 h3 h4 h5 h6 h7 h8 h9 h10 h11 h12 h13 h14 h15 h16 h17 h18 h19 h20 h21 h22 h23
      have B2 := bel_step B1 hb2
      have z2 := Nat.le_trans z1 hb2.size
      clear hb2
      (try clear B1)
      (try clear z1)
      (try clear k1_b2_0)
      (try clear g1_b2_0)
      (try clear k1_b2_1)
      (try clear g1_b2_1)
      (try clear k1_b2_2)
      (try clear g1_b2_2)
      (try clear k1_b2_3)
      (try clear g1_b2_3)
      (try clear k1_b3_0)
      (try clear g1_b3_0)
      (try clear k1_b3_1)
      (try clear g1_b3_1)
      (try clear k1_b3_2)
      (try clear g1_b3_2)
      (try clear k1_b3_3)
      (try clear g1_b3_3)
      (try clear k1_b4_0)
      (try clear g1_b4_0)
      (try clear k1_b4_1)
      (try clear g1_b4_1)
      (try clear k1_b4_2)
      (try clear g1_b4_2)
      (try clear k1_b4_3)
      (try clear g1_b4_3)
      (try clear q1_b2)
      (try clear x1_b2)
      (try clear y1_b2)
      (try clear q1_b3)
      (try clear x1_b3)
      (try clear y1_b3)
      (try clear q1_b4)
      (try clear x1_b4)
      (try clear y1_b4)
      have q2_b2 : w.heap.size < w2.heap.size := qlt k2_b2_0
      have x2_b2 : ¬ w.heap.size = w2.heap.size := qne k2_b2_0
      have y2_b2 : ¬ w2.heap.size = w.heap.size := fun h => qne k2_b2_0 h.symm
      have q2_b3 : w.heap.size + 1 < w2.heap.size := qlt k2_b3_0
      have x2_b3 : ¬ w.heap.size + 1 = w2.heap.size := qne k2_b3_0
      have y2_b3 : ¬ w2.heap.size = w.heap.size + 1 := fun h => qne k2_b3_0 h.symm
      have q2_b4 : w.heap.size + 1 + 1 < w2.heap.size := qlt k2_b4_0
      have x2_b4 : ¬ w.heap.size + 1 + 1 = w2.heap.size := qne k2_b4_0
      have y2_b4 : ¬ w2.heap.size = w.heap.size + 1 + 1 := fun h => qne k2_b4_0 h.symm
      go_wp2
      refine bodyPost_ret (v := .agg #[.int .i64 m0, .int .i64 m1, .int .i64 m2, .int .i64 m3]) (by simp [results, Try.results52, go_sem, *]) rfl ⟨rfl, ?_⟩
      repeat (first | with_reducible exact Below.refl _ _ | with_reducible exact B2 | with_reducible apply below_drewN | with_reducible apply Below.drew | (with_reducible refine Below.alloc ?_ (by first | (simp; done) | (simp; omega) | omega) _) | (with_reducible refine Below.setCell ?_ (by first | (simp; done) | (simp; omega) | omega) _))

set_option maxHeartbeats 2000000 in
theorem runion_any (a b c d s t u v : Int) (w : World) :
    Calls Try.prog 31 #[.agg #[.int .i64 a, .int .i64 b, .int .i64 c, .int .i64 d], .agg #[.int .i64 s, .int .i64 t, .int .i64 u, .int .i64 v]] w fun e w' => e = .returned (.agg #[.int .i64 (uLo (eR a b c d) (eR s t u v) a s), .int .i64 (uLo (eR a b c d) (eR s t u v) b t), .int .i64 (uHi (eR a b c d) (eR s t u v) c u), .int .i64 (uHi (eR a b c d) (eR s t u v) d v)]) ∧ Below w.heap.size w w' := by
  have c1 := fun w => rempty_any a b c d w
  have c2 := fun w => rempty_any s t u v w
  have c3 := fun w => rcanon_any s t u v w
  cases ea : eR a b c d with
  | true =>
    rw [ea] at c1
    simp only [uLo, uHi, if_true]
    obtain ⟨S, eS⟩ : ∃ x, cn (eR s t u v) s = x := ⟨_, rfl⟩
    obtain ⟨T, eT⟩ : ∃ x, cn (eR s t u v) t = x := ⟨_, rfl⟩
    obtain ⟨U, eU⟩ : ∃ x, cn (eR s t u v) u = x := ⟨_, rfl⟩
    obtain ⟨V, eV⟩ : ∃ x, cn (eR s t u v) v = x := ⟨_, rfl⟩
    rw [eS, eT, eU, eV] at c3 ⊢
    clear ea eS eT eU eV
    go_enter Try.func31, Try.ntmps31
    go_wp2_with (first | (go_at_call 65; (with_reducible refine (c1 _).mono ?_); rintro e w1 ⟨rfl, hb1⟩; have k1_b2_0 : w1.cell? ⟨w.heap.size, 0, none⟩ = some (.int .i64 a) := bcs hb1 (by go_simp); have g1_b2_0 : w1.frozen? ⟨w.heap.size, 0, none⟩ = false := bfs hb1 (v := .int .i64 a) (by go_simp) (by go_simp); have k1_b2_1 : w1.cell? ⟨w.heap.size, 1, none⟩ = some (.int .i64 b) := bcs hb1 (by go_simp); have g1_b2_1 : w1.frozen? ⟨w.heap.size, 1, none⟩ = false := bfs hb1 (v := .int .i64 b) (by go_simp) (by go_simp); have k1_b2_2 : w1.cell? ⟨w.heap.size, 2, none⟩ = some (.int .i64 c) := bcs hb1 (by go_simp); have g1_b2_2 : w1.frozen? ⟨w.heap.size, 2, none⟩ = false := bfs hb1 (v := .int .i64 c) (by go_simp) (by go_simp); have k1_b2_3 : w1.cell? ⟨w.heap.size, 3, none⟩ = some (.int .i64 d) := bcs hb1 (by go_simp); have g1_b2_3 : w1.frozen? ⟨w.heap.size, 3, none⟩ = false := bfs hb1 (v := .int .i64 d) (by go_simp) (by go_simp); have k1_b3_0 : w1.cell? ⟨w.heap.size + 1, 0, none⟩ = some (.int .i64 s) := bcs hb1 (by go_simp); have g1_b3_0 : w1.frozen? ⟨w.heap.size + 1, 0, none⟩ = false := bfs hb1 (v := .int .i64 s) (by go_simp) (by go_simp); have k1_b3_1 : w1.cell? ⟨w.heap.size + 1, 1, none⟩ = some (.int .i64 t) := bcs hb1 (by go_simp); have g1_b3_1 : w1.frozen? ⟨w.heap.size + 1, 1, none⟩ = false := bfs hb1 (v := .int .i64 t) (by go_simp) (by go_simp); have k1_b3_2 : w1.cell? ⟨w.heap.size + 1, 2, none⟩ = some (.int .i64 u) := bcs hb1 (by go_simp); have g1_b3_2 : w1.frozen? ⟨w.heap.size + 1, 2, none⟩ = false := bfs hb1 (v := .int .i64 u) (by go_simp) (by go_simp); have k1_b3_3 : w1.cell? ⟨w.heap.size + 1, 3, none⟩ = some (.int .i64 v) := bcs hb1 (by go_simp); have g1_b3_3 : w1.frozen? ⟨w.heap.size + 1, 3, none⟩ = false := bfs hb1 (v := .int .i64 v) (by go_simp) (by go_simp); have k1_b4_0 : w1.cell? ⟨w.heap.size + 1 + 1, 0, none⟩ = some (.int .i64 0) := bcs hb1 (by go_simp); have g1_b4_0 : w1.frozen? ⟨w.heap.size + 1 + 1, 0, none⟩ = false := bfs hb1 (v := .int .i64 0) (by go_simp) (by go_simp); have k1_b4_1 : w1.cell? ⟨w.heap.size + 1 + 1, 1, none⟩ = some (.int .i64 0) := bcs hb1 (by go_simp); have g1_b4_1 : w1.frozen? ⟨w.heap.size + 1 + 1, 1, none⟩ = false := bfs hb1 (v := .int .i64 0) (by go_simp) (by go_simp); have k1_b4_2 : w1.cell? ⟨w.heap.size + 1 + 1, 2, none⟩ = some (.int .i64 0) := bcs hb1 (by go_simp); have g1_b4_2 : w1.frozen? ⟨w.heap.size + 1 + 1, 2, none⟩ = false := bfs hb1 (v := .int .i64 0) (by go_simp) (by go_simp); have k1_b4_3 : w1.cell? ⟨w.heap.size + 1 + 1, 3, none⟩ = some (.int .i64 0) := bcs hb1 (by go_simp); have g1_b4_3 : w1.frozen? ⟨w.heap.size + 1 + 1, 3, none⟩ = false := bfs hb1 (v := .int .i64 0) (by go_simp) (by go_simp); have q1_b2 : w.heap.size < w1.heap.size := qlt k1_b2_0; have x1_b2 : ¬ w.heap.size = w1.heap.size := qne k1_b2_0; have y1_b2 : ¬ w1.heap.size = w.heap.size := fun h => qne k1_b2_0 h.symm; have q1_b3 : w.heap.size + 1 < w1.heap.size := qlt k1_b3_0; have x1_b3 : ¬ w.heap.size + 1 = w1.heap.size := qne k1_b3_0; have y1_b3 : ¬ w1.heap.size = w.heap.size + 1 := fun h => qne k1_b3_0 h.symm; have q1_b4 : w.heap.size + 1 + 1 < w1.heap.size := qlt k1_b4_0; have x1_b4 : ¬ w.heap.size + 1 + 1 = w1.heap.size := qne k1_b4_0; have y1_b4 : ¬ w1.heap.size = w.heap.size + 1 + 1 := fun h => qne k1_b4_0 h.symm; have B1 : Below w.heap.size w w1 := bel_step (by repeat (first | with_reducible exact Below.refl _ _ | fail | with_reducible apply below_drewN | with_reducible apply Below.drew | (with_reducible refine Below.alloc ?_ (by first | (simp; done) | (simp; omega) | omega) _) | (with_reducible refine Below.setCell ?_ (by first | (simp; done) | (simp; omega) | omega) _))) hb1; have z1 : w.heap.size + 1 + 1 + 1 ≤ w1.heap.size := Nat.le_trans (by first | with_reducible assumption | (simp; done) | (simp; omega)) hb1.size; clear hb1) | (go_at_call 49; (with_reducible refine (c3 _).mono ?_); rintro e w2 ⟨rfl, hb2⟩; have k2_b2_0 : w2.cell? ⟨w.heap.size, 0, none⟩ = some (.int .i64 a) := bcs hb2 (by go_simp); have g2_b2_0 : w2.frozen? ⟨w.heap.size, 0, none⟩ = false := bfs hb2 (v := .int .i64 a) (by go_simp) (by go_simp); have k2_b2_1 : w2.cell? ⟨w.heap.size, 1, none⟩ = some (.int .i64 b) := bcs hb2 (by go_simp); have g2_b2_1 : w2.frozen? ⟨w.heap.size, 1, none⟩ = false := bfs hb2 (v := .int .i64 b) (by go_simp) (by go_simp); have k2_b2_2 : w2.cell? ⟨w.heap.size, 2, none⟩ = some (.int .i64 c) := bcs hb2 (by go_simp); have g2_b2_2 : w2.frozen? ⟨w.heap.size, 2, none⟩ = false := bfs hb2 (v := .int .i64 c) (by go_simp) (by go_simp); have k2_b2_3 : w2.cell? ⟨w.heap.size, 3, none⟩ = some (.int .i64 d) := bcs hb2 (by go_simp); have g2_b2_3 : w2.frozen? ⟨w.heap.size, 3, none⟩ = false := bfs hb2 (v := .int .i64 d) (by go_simp) (by go_simp); have k2_b3_0 : w2.cell? ⟨w.heap.size + 1, 0, none⟩ = some (.int .i64 s) := bcs hb2 (by go_simp); have g2_b3_0 : w2.frozen? ⟨w.heap.size + 1, 0, none⟩ = false := bfs hb2 (v := .int .i64 s) (by go_simp) (by go_simp); have k2_b3_1 : w2.cell? ⟨w.heap.size + 1, 1, none⟩ = some (.int .i64 t) := bcs hb2 (by go_simp); have g2_b3_1 : w2.frozen? ⟨w.heap.size + 1, 1, none⟩ = false := bfs hb2 (v := .int .i64 t) (by go_simp) (by go_simp); have k2_b3_2 : w2.cell? ⟨w.heap.size + 1, 2, none⟩ = some (.int .i64 u) := bcs hb2 (by go_simp); have g2_b3_2 : w2.frozen? ⟨w.heap.size + 1, 2, none⟩ = false := bfs hb2 (v := .int .i64 u) (by go_simp) (by go_simp); have k2_b3_3 : w2.cell? ⟨w.heap.size + 1, 3, none⟩ = some (.int .i64 v) := bcs hb2 (by go_simp); have g2_b3_3 : w2.frozen? ⟨w.heap.size + 1, 3, none⟩ = false := bfs hb2 (v := .int .i64 v) (by go_simp) (by go_simp); have k2_b4_0 : w2.cell? ⟨w.heap.size + 1 + 1, 0, none⟩ = some (.int .i64 0) := bcs hb2 (by go_simp); have g2_b4_0 : w2.frozen? ⟨w.heap.size + 1 + 1, 0, none⟩ = false := bfs hb2 (v := .int .i64 0) (by go_simp) (by go_simp); have k2_b4_1 : w2.cell? ⟨w.heap.size + 1 + 1, 1, none⟩ = some (.int .i64 0) := bcs hb2 (by go_simp); have g2_b4_1 : w2.frozen? ⟨w.heap.size + 1 + 1, 1, none⟩ = false := bfs hb2 (v := .int .i64 0) (by go_simp) (by go_simp); have k2_b4_2 : w2.cell? ⟨w.heap.size + 1 + 1, 2, none⟩ = some (.int .i64 0) := bcs hb2 (by go_simp); have g2_b4_2 : w2.frozen? ⟨w.heap.size + 1 + 1, 2, none⟩ = false := bfs hb2 (v := .int .i64 0) (by go_simp) (by go_simp); have k2_b4_3 : w2.cell? ⟨w.heap.size + 1 + 1, 3, none⟩ = some (.int .i64 0) := bcs hb2 (by go_simp); have g2_b4_3 : w2.frozen? ⟨w.heap.size + 1 + 1, 3, none⟩ = false := bfs hb2 (v := .int .i64 0) (by go_simp) (by go_simp); have q2_b2 : w.heap.size < w2.heap.size := qlt k2_b2_0; have x2_b2 : ¬ w.heap.size = w2.heap.size := qne k2_b2_0; have y2_b2 : ¬ w2.heap.size = w.heap.size := fun h => qne k2_b2_0 h.symm; have q2_b3 : w.heap.size + 1 < w2.heap.size := qlt k2_b3_0; have x2_b3 : ¬ w.heap.size + 1 = w2.heap.size := qne k2_b3_0; have y2_b3 : ¬ w2.heap.size = w.heap.size + 1 := fun h => qne k2_b3_0 h.symm; have q2_b4 : w.heap.size + 1 + 1 < w2.heap.size := qlt k2_b4_0; have x2_b4 : ¬ w.heap.size + 1 + 1 = w2.heap.size := qne k2_b4_0; have y2_b4 : ¬ w2.heap.size = w.heap.size + 1 + 1 := fun h => qne k2_b4_0 h.symm; have B2 : Below w.heap.size w w2 := bel_step (by repeat (first | with_reducible exact Below.refl _ _ | with_reducible exact B1 | with_reducible apply below_drewN | with_reducible apply Below.drew | (with_reducible refine Below.alloc ?_ (by first | (simp; done) | (simp; omega) | omega) _) | (with_reducible refine Below.setCell ?_ (by first | (simp; done) | (simp; omega) | omega) _))) hb2; have z2 : w.heap.size + 1 + 1 + 1 ≤ w2.heap.size := Nat.le_trans (by first | with_reducible assumption | (simp; done) | (simp; omega)) hb2.size; clear hb2; (try clear k1_b2_0); (try clear g1_b2_0); (try clear k1_b2_1); (try clear g1_b2_1); (try clear k1_b2_2); (try clear g1_b2_2); (try clear k1_b2_3); (try clear g1_b2_3); (try clear k1_b3_0); (try clear g1_b3_0); (try clear k1_b3_1); (try clear g1_b3_1); (try clear k1_b3_2); (try clear g1_b3_2); (try clear k1_b3_3); (try clear g1_b3_3); (try clear k1_b4_0); (try clear g1_b4_0); (try clear k1_b4_1); (try clear g1_b4_1); (try clear k1_b4_2); (try clear g1_b4_2); (try clear k1_b4_3); (try clear g1_b4_3); (try clear B1); (try clear z1); (try clear q1_b2); (try clear x1_b2); (try clear y1_b2); (try clear q1_b3); (try clear x1_b3); (try clear y1_b3); (try clear q1_b4); (try clear x1_b4); (try clear y1_b4)))
    refine bodyPost_ret (v := .agg #[.int .i64 S, .int .i64 T, .int .i64 U, .int .i64 V]) (by simp [results, Try.results31, go_sem, *]) rfl ⟨rfl, ?_⟩
    repeat (first | with_reducible exact Below.refl _ _ | with_reducible exact B2 | with_reducible apply below_drewN | with_reducible apply Below.drew | (with_reducible refine Below.alloc ?_ (by first | (simp; done) | (simp; omega) | omega) _) | (with_reducible refine Below.setCell ?_ (by first | (simp; done) | (simp; omega) | omega) _))
  | false =>
    rw [ea] at c1
    cases es : eR s t u v with
    | true =>
      rw [es] at c2
      simp only [uLo, uHi, if_true, Bool.false_eq_true, if_false]
      clear ea es
      go_enter Try.func31, Try.ntmps31
      go_wp2_with (first | (go_at_call 65; (with_reducible refine (c1 _).mono ?_); rintro e w1 ⟨rfl, hb1⟩; have k1_b2_0 : w1.cell? ⟨w.heap.size, 0, none⟩ = some (.int .i64 a) := bcs hb1 (by go_simp); have g1_b2_0 : w1.frozen? ⟨w.heap.size, 0, none⟩ = false := bfs hb1 (v := .int .i64 a) (by go_simp) (by go_simp); have k1_b2_1 : w1.cell? ⟨w.heap.size, 1, none⟩ = some (.int .i64 b) := bcs hb1 (by go_simp); have g1_b2_1 : w1.frozen? ⟨w.heap.size, 1, none⟩ = false := bfs hb1 (v := .int .i64 b) (by go_simp) (by go_simp); have k1_b2_2 : w1.cell? ⟨w.heap.size, 2, none⟩ = some (.int .i64 c) := bcs hb1 (by go_simp); have g1_b2_2 : w1.frozen? ⟨w.heap.size, 2, none⟩ = false := bfs hb1 (v := .int .i64 c) (by go_simp) (by go_simp); have k1_b2_3 : w1.cell? ⟨w.heap.size, 3, none⟩ = some (.int .i64 d) := bcs hb1 (by go_simp); have g1_b2_3 : w1.frozen? ⟨w.heap.size, 3, none⟩ = false := bfs hb1 (v := .int .i64 d) (by go_simp) (by go_simp); have k1_b3_0 : w1.cell? ⟨w.heap.size + 1, 0, none⟩ = some (.int .i64 s) := bcs hb1 (by go_simp); have g1_b3_0 : w1.frozen? ⟨w.heap.size + 1, 0, none⟩ = false := bfs hb1 (v := .int .i64 s) (by go_simp) (by go_simp); have k1_b3_1 : w1.cell? ⟨w.heap.size + 1, 1, none⟩ = some (.int .i64 t) := bcs hb1 (by go_simp); have g1_b3_1 : w1.frozen? ⟨w.heap.size + 1, 1, none⟩ = false := bfs hb1 (v := .int .i64 t) (by go_simp) (by go_simp); have k1_b3_2 : w1.cell? ⟨w.heap.size + 1, 2, none⟩ = some (.int .i64 u) := bcs hb1 (by go_simp); have g1_b3_2 : w1.frozen? ⟨w.heap.size + 1, 2, none⟩ = false := bfs hb1 (v := .int .i64 u) (by go_simp) (by go_simp); have k1_b3_3 : w1.cell? ⟨w.heap.size + 1, 3, none⟩ = some (.int .i64 v) := bcs hb1 (by go_simp); have g1_b3_3 : w1.frozen? ⟨w.heap.size + 1, 3, none⟩ = false := bfs hb1 (v := .int .i64 v) (by go_simp) (by go_simp); have k1_b4_0 : w1.cell? ⟨w.heap.size + 1 + 1, 0, none⟩ = some (.int .i64 0) := bcs hb1 (by go_simp); have g1_b4_0 : w1.frozen? ⟨w.heap.size + 1 + 1, 0, none⟩ = false := bfs hb1 (v := .int .i64 0) (by go_simp) (by go_simp); have k1_b4_1 : w1.cell? ⟨w.heap.size + 1 + 1, 1, none⟩ = some (.int .i64 0) := bcs hb1 (by go_simp); have g1_b4_1 : w1.frozen? ⟨w.heap.size + 1 + 1, 1, none⟩ = false := bfs hb1 (v := .int .i64 0) (by go_simp) (by go_simp); have k1_b4_2 : w1.cell? ⟨w.heap.size + 1 + 1, 2, none⟩ = some (.int .i64 0) := bcs hb1 (by go_simp); have g1_b4_2 : w1.frozen? ⟨w.heap.size + 1 + 1, 2, none⟩ = false := bfs hb1 (v := .int .i64 0) (by go_simp) (by go_simp); have k1_b4_3 : w1.cell? ⟨w.heap.size + 1 + 1, 3, none⟩ = some (.int .i64 0) := bcs hb1 (by go_simp); have g1_b4_3 : w1.frozen? ⟨w.heap.size + 1 + 1, 3, none⟩ = false := bfs hb1 (v := .int .i64 0) (by go_simp) (by go_simp); have q1_b2 : w.heap.size < w1.heap.size := qlt k1_b2_0; have x1_b2 : ¬ w.heap.size = w1.heap.size := qne k1_b2_0; have y1_b2 : ¬ w1.heap.size = w.heap.size := fun h => qne k1_b2_0 h.symm; have q1_b3 : w.heap.size + 1 < w1.heap.size := qlt k1_b3_0; have x1_b3 : ¬ w.heap.size + 1 = w1.heap.size := qne k1_b3_0; have y1_b3 : ¬ w1.heap.size = w.heap.size + 1 := fun h => qne k1_b3_0 h.symm; have q1_b4 : w.heap.size + 1 + 1 < w1.heap.size := qlt k1_b4_0; have x1_b4 : ¬ w.heap.size + 1 + 1 = w1.heap.size := qne k1_b4_0; have y1_b4 : ¬ w1.heap.size = w.heap.size + 1 + 1 := fun h => qne k1_b4_0 h.symm; have B1 : Below w.heap.size w w1 := bel_step (by repeat (first | with_reducible exact Below.refl _ _ | fail | with_reducible apply below_drewN | with_reducible apply Below.drew | (with_reducible refine Below.alloc ?_ (by first | (simp; done) | (simp; omega) | omega) _) | (with_reducible refine Below.setCell ?_ (by first | (simp; done) | (simp; omega) | omega) _))) hb1; have z1 : w.heap.size + 1 + 1 + 1 ≤ w1.heap.size := Nat.le_trans (by first | with_reducible assumption | (simp; done) | (simp; omega)) hb1.size; clear hb1) | (go_at_call 65; (with_reducible refine (c2 _).mono ?_); rintro e w2 ⟨rfl, hb2⟩; have k2_b2_0 : w2.cell? ⟨w.heap.size, 0, none⟩ = some (.int .i64 a) := bcs hb2 (by go_simp); have g2_b2_0 : w2.frozen? ⟨w.heap.size, 0, none⟩ = false := bfs hb2 (v := .int .i64 a) (by go_simp) (by go_simp); have k2_b2_1 : w2.cell? ⟨w.heap.size, 1, none⟩ = some (.int .i64 b) := bcs hb2 (by go_simp); have g2_b2_1 : w2.frozen? ⟨w.heap.size, 1, none⟩ = false := bfs hb2 (v := .int .i64 b) (by go_simp) (by go_simp); have k2_b2_2 : w2.cell? ⟨w.heap.size, 2, none⟩ = some (.int .i64 c) := bcs hb2 (by go_simp); have g2_b2_2 : w2.frozen? ⟨w.heap.size, 2, none⟩ = false := bfs hb2 (v := .int .i64 c) (by go_simp) (by go_simp); have k2_b2_3 : w2.cell? ⟨w.heap.size, 3, none⟩ = some (.int .i64 d) := bcs hb2 (by go_simp); have g2_b2_3 : w2.frozen? ⟨w.heap.size, 3, none⟩ = false := bfs hb2 (v := .int .i64 d) (by go_simp) (by go_simp); have k2_b3_0 : w2.cell? ⟨w.heap.size + 1, 0, none⟩ = some (.int .i64 s) := bcs hb2 (by go_simp); have g2_b3_0 : w2.frozen? ⟨w.heap.size + 1, 0, none⟩ = false := bfs hb2 (v := .int .i64 s) (by go_simp) (by go_simp); have k2_b3_1 : w2.cell? ⟨w.heap.size + 1, 1, none⟩ = some (.int .i64 t) := bcs hb2 (by go_simp); have g2_b3_1 : w2.frozen? ⟨w.heap.size + 1, 1, none⟩ = false := bfs hb2 (v := .int .i64 t) (by go_simp) (by go_simp); have k2_b3_2 : w2.cell? ⟨w.heap.size + 1, 2, none⟩ = some (.int .i64 u) := bcs hb2 (by go_simp); have g2_b3_2 : w2.frozen? ⟨w.heap.size + 1, 2, none⟩ = false := bfs hb2 (v := .int .i64 u) (by go_simp) (by go_simp); have k2_b3_3 : w2.cell? ⟨w.heap.size + 1, 3, none⟩ = some (.int .i64 v) := bcs hb2 (by go_simp); have g2_b3_3 : w2.frozen? ⟨w.heap.size + 1, 3, none⟩ = false := bfs hb2 (v := .int .i64 v) (by go_simp) (by go_simp); have k2_b4_0 : w2.cell? ⟨w.heap.size + 1 + 1, 0, none⟩ = some (.int .i64 0) := bcs hb2 (by go_simp); have g2_b4_0 : w2.frozen? ⟨w.heap.size + 1 + 1, 0, none⟩ = false := bfs hb2 (v := .int .i64 0) (by go_simp) (by go_simp); have k2_b4_1 : w2.cell? ⟨w.heap.size + 1 + 1, 1, none⟩ = some (.int .i64 0) := bcs hb2 (by go_simp); have g2_b4_1 : w2.frozen? ⟨w.heap.size + 1 + 1, 1, none⟩ = false := bfs hb2 (v := .int .i64 0) (by go_simp) (by go_simp); have k2_b4_2 : w2.cell? ⟨w.heap.size + 1 + 1, 2, none⟩ = some (.int .i64 0) := bcs hb2 (by go_simp); have g2_b4_2 : w2.frozen? ⟨w.heap.size + 1 + 1, 2, none⟩ = false := bfs hb2 (v := .int .i64 0) (by go_simp) (by go_simp); have k2_b4_3 : w2.cell? ⟨w.heap.size + 1 + 1, 3, none⟩ = some (.int .i64 0) := bcs hb2 (by go_simp); have g2_b4_3 : w2.frozen? ⟨w.heap.size + 1 + 1, 3, none⟩ = false := bfs hb2 (v := .int .i64 0) (by go_simp) (by go_simp); have q2_b2 : w.heap.size < w2.heap.size := qlt k2_b2_0; have x2_b2 : ¬ w.heap.size = w2.heap.size := qne k2_b2_0; have y2_b2 : ¬ w2.heap.size = w.heap.size := fun h => qne k2_b2_0 h.symm; have q2_b3 : w.heap.size + 1 < w2.heap.size := qlt k2_b3_0; have x2_b3 : ¬ w.heap.size + 1 = w2.heap.size := qne k2_b3_0; have y2_b3 : ¬ w2.heap.size = w.heap.size + 1 := fun h => qne k2_b3_0 h.symm; have q2_b4 : w.heap.size + 1 + 1 < w2.heap.size := qlt k2_b4_0; have x2_b4 : ¬ w.heap.size + 1 + 1 = w2.heap.size := qne k2_b4_0; have y2_b4 : ¬ w2.heap.size = w.heap.size + 1 + 1 := fun h => qne k2_b4_0 h.symm; have B2 : Below w.heap.size w w2 := bel_step (by repeat (first | with_reducible exact Below.refl _ _ | with_reducible exact B1 | with_reducible apply below_drewN | with_reducible apply Below.drew | (with_reducible refine Below.alloc ?_ (by first | (simp; done) | (simp; omega) | omega) _) | (with_reducible refine Below.setCell ?_ (by first | (simp; done) | (simp; omega) | omega) _))) hb2; have z2 : w.heap.size + 1 + 1 + 1 ≤ w2.heap.size := Nat.le_trans (by first | with_reducible assumption | (simp; done) | (simp; omega)) hb2.size; clear hb2; (try clear k1_b2_0); (try clear g1_b2_0); (try clear k1_b2_1); (try clear g1_b2_1); (try clear k1_b2_2); (try clear g1_b2_2); (try clear k1_b2_3); (try clear g1_b2_3); (try clear k1_b3_0); (try clear g1_b3_0); (try clear k1_b3_1); (try clear g1_b3_1); (try clear k1_b3_2); (try clear g1_b3_2); (try clear k1_b3_3); (try clear g1_b3_3); (try clear k1_b4_0); (try clear g1_b4_0); (try clear k1_b4_1); (try clear g1_b4_1); (try clear k1_b4_2); (try clear g1_b4_2); (try clear k1_b4_3); (try clear g1_b4_3); (try clear B1); (try clear z1); (try clear q1_b2); (try clear x1_b2); (try clear y1_b2); (try clear q1_b3); (try clear x1_b3); (try clear y1_b3); (try clear q1_b4); (try clear x1_b4); (try clear y1_b4)))
      refine bodyPost_ret (v := .agg #[.int .i64 a, .int .i64 b, .int .i64 c, .int .i64 d]) (by simp [results, Try.results31, go_sem, *]) rfl ⟨rfl, ?_⟩
      repeat (first | with_reducible exact Below.refl _ _ | with_reducible exact B2 | with_reducible apply below_drewN | with_reducible apply Below.drew | (with_reducible refine Below.alloc ?_ (by first | (simp; done) | (simp; omega) | omega) _) | (with_reducible refine Below.setCell ?_ (by first | (simp; done) | (simp; omega) | omega) _))
    | false =>
      rw [es] at c2
      simp only [uLo, uHi, Bool.false_eq_true, if_false]
      clear ea es
      obtain ⟨m0, j0⟩ : ∃ x, min a s = x := ⟨_, rfl⟩
      have g0 : (if s < a then s else a) = m0 := by rw [← j0]; omega
      obtain ⟨m1, j1⟩ : ∃ x, min b t = x := ⟨_, rfl⟩
      have g1 : (if t < b then t else b) = m1 := by rw [← j1]; omega
      obtain ⟨m2, j2⟩ : ∃ x, max c u = x := ⟨_, rfl⟩
      have g2 : (if c < u then u else c) = m2 := by rw [← j2]; omega
      obtain ⟨m3, j3⟩ : ∃ x, max d v = x := ⟨_, rfl⟩
      have g3 : (if d < v then v else d) = m3 := by rw [← j3]; omega
      rw [j0, j1, j2, j3]
      go_enter Try.func31, Try.ntmps31
      go_wp2_with (first | (go_at_call 65; (with_reducible refine (c1 _).mono ?_); rintro e w1 ⟨rfl, hb1⟩; have k1_b2_0 : w1.cell? ⟨w.heap.size, 0, none⟩ = some (.int .i64 a) := bcs hb1 (by go_simp); have g1_b2_0 : w1.frozen? ⟨w.heap.size, 0, none⟩ = false := bfs hb1 (v := .int .i64 a) (by go_simp) (by go_simp); have k1_b2_1 : w1.cell? ⟨w.heap.size, 1, none⟩ = some (.int .i64 b) := bcs hb1 (by go_simp); have g1_b2_1 : w1.frozen? ⟨w.heap.size, 1, none⟩ = false := bfs hb1 (v := .int .i64 b) (by go_simp) (by go_simp); have k1_b2_2 : w1.cell? ⟨w.heap.size, 2, none⟩ = some (.int .i64 c) := bcs hb1 (by go_simp); have g1_b2_2 : w1.frozen? ⟨w.heap.size, 2, none⟩ = false := bfs hb1 (v := .int .i64 c) (by go_simp) (by go_simp); have k1_b2_3 : w1.cell? ⟨w.heap.size, 3, none⟩ = some (.int .i64 d) := bcs hb1 (by go_simp); have g1_b2_3 : w1.frozen? ⟨w.heap.size, 3, none⟩ = false := bfs hb1 (v := .int .i64 d) (by go_simp) (by go_simp); have k1_b3_0 : w1.cell? ⟨w.heap.size + 1, 0, none⟩ = some (.int .i64 s) := bcs hb1 (by go_simp); have g1_b3_0 : w1.frozen? ⟨w.heap.size + 1, 0, none⟩ = false := bfs hb1 (v := .int .i64 s) (by go_simp) (by go_simp); have k1_b3_1 : w1.cell? ⟨w.heap.size + 1, 1, none⟩ = some (.int .i64 t) := bcs hb1 (by go_simp); have g1_b3_1 : w1.frozen? ⟨w.heap.size + 1, 1, none⟩ = false := bfs hb1 (v := .int .i64 t) (by go_simp) (by go_simp); have k1_b3_2 : w1.cell? ⟨w.heap.size + 1, 2, none⟩ = some (.int .i64 u) := bcs hb1 (by go_simp); have g1_b3_2 : w1.frozen? ⟨w.heap.size + 1, 2, none⟩ = false := bfs hb1 (v := .int .i64 u) (by go_simp) (by go_simp); have k1_b3_3 : w1.cell? ⟨w.heap.size + 1, 3, none⟩ = some (.int .i64 v) := bcs hb1 (by go_simp); have g1_b3_3 : w1.frozen? ⟨w.heap.size + 1, 3, none⟩ = false := bfs hb1 (v := .int .i64 v) (by go_simp) (by go_simp); have k1_b4_0 : w1.cell? ⟨w.heap.size + 1 + 1, 0, none⟩ = some (.int .i64 0) := bcs hb1 (by go_simp); have g1_b4_0 : w1.frozen? ⟨w.heap.size + 1 + 1, 0, none⟩ = false := bfs hb1 (v := .int .i64 0) (by go_simp) (by go_simp); have k1_b4_1 : w1.cell? ⟨w.heap.size + 1 + 1, 1, none⟩ = some (.int .i64 0) := bcs hb1 (by go_simp); have g1_b4_1 : w1.frozen? ⟨w.heap.size + 1 + 1, 1, none⟩ = false := bfs hb1 (v := .int .i64 0) (by go_simp) (by go_simp); have k1_b4_2 : w1.cell? ⟨w.heap.size + 1 + 1, 2, none⟩ = some (.int .i64 0) := bcs hb1 (by go_simp); have g1_b4_2 : w1.frozen? ⟨w.heap.size + 1 + 1, 2, none⟩ = false := bfs hb1 (v := .int .i64 0) (by go_simp) (by go_simp); have k1_b4_3 : w1.cell? ⟨w.heap.size + 1 + 1, 3, none⟩ = some (.int .i64 0) := bcs hb1 (by go_simp); have g1_b4_3 : w1.frozen? ⟨w.heap.size + 1 + 1, 3, none⟩ = false := bfs hb1 (v := .int .i64 0) (by go_simp) (by go_simp); have q1_b2 : w.heap.size < w1.heap.size := qlt k1_b2_0; have x1_b2 : ¬ w.heap.size = w1.heap.size := qne k1_b2_0; have y1_b2 : ¬ w1.heap.size = w.heap.size := fun h => qne k1_b2_0 h.symm; have q1_b3 : w.heap.size + 1 < w1.heap.size := qlt k1_b3_0; have x1_b3 : ¬ w.heap.size + 1 = w1.heap.size := qne k1_b3_0; have y1_b3 : ¬ w1.heap.size = w.heap.size + 1 := fun h => qne k1_b3_0 h.symm; have q1_b4 : w.heap.size + 1 + 1 < w1.heap.size := qlt k1_b4_0; have x1_b4 : ¬ w.heap.size + 1 + 1 = w1.heap.size := qne k1_b4_0; have y1_b4 : ¬ w1.heap.size = w.heap.size + 1 + 1 := fun h => qne k1_b4_0 h.symm; have B1 : Below w.heap.size w w1 := bel_step (by repeat (first | with_reducible exact Below.refl _ _ | fail | with_reducible apply below_drewN | with_reducible apply Below.drew | (with_reducible refine Below.alloc ?_ (by first | (simp; done) | (simp; omega) | omega) _) | (with_reducible refine Below.setCell ?_ (by first | (simp; done) | (simp; omega) | omega) _))) hb1; have z1 : w.heap.size + 1 + 1 + 1 ≤ w1.heap.size := Nat.le_trans (by first | with_reducible assumption | (simp; done) | (simp; omega)) hb1.size; clear hb1) | (go_at_call 65; (with_reducible refine (c2 _).mono ?_); rintro e w2 ⟨rfl, hb2⟩; have k2_b2_0 : w2.cell? ⟨w.heap.size, 0, none⟩ = some (.int .i64 a) := bcs hb2 (by go_simp); have g2_b2_0 : w2.frozen? ⟨w.heap.size, 0, none⟩ = false := bfs hb2 (v := .int .i64 a) (by go_simp) (by go_simp); have k2_b2_1 : w2.cell? ⟨w.heap.size, 1, none⟩ = some (.int .i64 b) := bcs hb2 (by go_simp); have g2_b2_1 : w2.frozen? ⟨w.heap.size, 1, none⟩ = false := bfs hb2 (v := .int .i64 b) (by go_simp) (by go_simp); have k2_b2_2 : w2.cell? ⟨w.heap.size, 2, none⟩ = some (.int .i64 c) := bcs hb2 (by go_simp); have g2_b2_2 : w2.frozen? ⟨w.heap.size, 2, none⟩ = false := bfs hb2 (v := .int .i64 c) (by go_simp) (by go_simp); have k2_b2_3 : w2.cell? ⟨w.heap.size, 3, none⟩ = some (.int .i64 d) := bcs hb2 (by go_simp); have g2_b2_3 : w2.frozen? ⟨w.heap.size, 3, none⟩ = false := bfs hb2 (v := .int .i64 d) (by go_simp) (by go_simp); have k2_b3_0 : w2.cell? ⟨w.heap.size + 1, 0, none⟩ = some (.int .i64 s) := bcs hb2 (by go_simp); have g2_b3_0 : w2.frozen? ⟨w.heap.size + 1, 0, none⟩ = false := bfs hb2 (v := .int .i64 s) (by go_simp) (by go_simp); have k2_b3_1 : w2.cell? ⟨w.heap.size + 1, 1, none⟩ = some (.int .i64 t) := bcs hb2 (by go_simp); have g2_b3_1 : w2.frozen? ⟨w.heap.size + 1, 1, none⟩ = false := bfs hb2 (v := .int .i64 t) (by go_simp) (by go_simp); have k2_b3_2 : w2.cell? ⟨w.heap.size + 1, 2, none⟩ = some (.int .i64 u) := bcs hb2 (by go_simp); have g2_b3_2 : w2.frozen? ⟨w.heap.size + 1, 2, none⟩ = false := bfs hb2 (v := .int .i64 u) (by go_simp) (by go_simp); have k2_b3_3 : w2.cell? ⟨w.heap.size + 1, 3, none⟩ = some (.int .i64 v) := bcs hb2 (by go_simp); have g2_b3_3 : w2.frozen? ⟨w.heap.size + 1, 3, none⟩ = false := bfs hb2 (v := .int .i64 v) (by go_simp) (by go_simp); have k2_b4_0 : w2.cell? ⟨w.heap.size + 1 + 1, 0, none⟩ = some (.int .i64 0) := bcs hb2 (by go_simp); have g2_b4_0 : w2.frozen? ⟨w.heap.size + 1 + 1, 0, none⟩ = false := bfs hb2 (v := .int .i64 0) (by go_simp) (by go_simp); have k2_b4_1 : w2.cell? ⟨w.heap.size + 1 + 1, 1, none⟩ = some (.int .i64 0) := bcs hb2 (by go_simp); have g2_b4_1 : w2.frozen? ⟨w.heap.size + 1 + 1, 1, none⟩ = false := bfs hb2 (v := .int .i64 0) (by go_simp) (by go_simp); have k2_b4_2 : w2.cell? ⟨w.heap.size + 1 + 1, 2, none⟩ = some (.int .i64 0) := bcs hb2 (by go_simp); have g2_b4_2 : w2.frozen? ⟨w.heap.size + 1 + 1, 2, none⟩ = false := bfs hb2 (v := .int .i64 0) (by go_simp) (by go_simp); have k2_b4_3 : w2.cell? ⟨w.heap.size + 1 + 1, 3, none⟩ = some (.int .i64 0) := bcs hb2 (by go_simp); have g2_b4_3 : w2.frozen? ⟨w.heap.size + 1 + 1, 3, none⟩ = false := bfs hb2 (v := .int .i64 0) (by go_simp) (by go_simp); have q2_b2 : w.heap.size < w2.heap.size := qlt k2_b2_0; have x2_b2 : ¬ w.heap.size = w2.heap.size := qne k2_b2_0; have y2_b2 : ¬ w2.heap.size = w.heap.size := fun h => qne k2_b2_0 h.symm; have q2_b3 : w.heap.size + 1 < w2.heap.size := qlt k2_b3_0; have x2_b3 : ¬ w.heap.size + 1 = w2.heap.size := qne k2_b3_0; have y2_b3 : ¬ w2.heap.size = w.heap.size + 1 := fun h => qne k2_b3_0 h.symm; have q2_b4 : w.heap.size + 1 + 1 < w2.heap.size := qlt k2_b4_0; have x2_b4 : ¬ w.heap.size + 1 + 1 = w2.heap.size := qne k2_b4_0; have y2_b4 : ¬ w2.heap.size = w.heap.size + 1 + 1 := fun h => qne k2_b4_0 h.symm; have B2 : Below w.heap.size w w2 := bel_step (by repeat (first | with_reducible exact Below.refl _ _ | with_reducible exact B1 | with_reducible apply below_drewN | with_reducible apply Below.drew | (with_reducible refine Below.alloc ?_ (by first | (simp; done) | (simp; omega) | omega) _) | (with_reducible refine Below.setCell ?_ (by first | (simp; done) | (simp; omega) | omega) _))) hb2; have z2 : w.heap.size + 1 + 1 + 1 ≤ w2.heap.size := Nat.le_trans (by first | with_reducible assumption | (simp; done) | (simp; omega)) hb2.size; clear hb2; (try clear k1_b2_0); (try clear g1_b2_0); (try clear k1_b2_1); (try clear g1_b2_1); (try clear k1_b2_2); (try clear g1_b2_2); (try clear k1_b2_3); (try clear g1_b2_3); (try clear k1_b3_0); (try clear g1_b3_0); (try clear k1_b3_1); (try clear g1_b3_1); (try clear k1_b3_2); (try clear g1_b3_2); (try clear k1_b3_3); (try clear g1_b3_3); (try clear k1_b4_0); (try clear g1_b4_0); (try clear k1_b4_1); (try clear g1_b4_1); (try clear k1_b4_2); (try clear g1_b4_2); (try clear k1_b4_3); (try clear g1_b4_3); (try clear B1); (try clear z1); (try clear q1_b2); (try clear x1_b2); (try clear y1_b2); (try clear q1_b3); (try clear x1_b3); (try clear y1_b3); (try clear q1_b4); (try clear x1_b4); (try clear y1_b4)))
      refine bodyPost_ret (v := .agg #[.int .i64 m0, .int .i64 m1, .int .i64 m2, .int .i64 m3]) (by simp [results, Try.results31, go_sem, *]) rfl ⟨rfl, ?_⟩
      repeat (first | with_reducible exact Below.refl _ _ | with_reducible exact B2 | with_reducible apply below_drewN | with_reducible apply Below.drew | (with_reducible refine Below.alloc ?_ (by first | (simp; done) | (simp; omega) | omega) _) | (with_reducible refine Below.setCell ?_ (by first | (simp; done) | (simp; omega) | omega) _))
end Go.Proofs.Ytfbgfnebodabpaa
