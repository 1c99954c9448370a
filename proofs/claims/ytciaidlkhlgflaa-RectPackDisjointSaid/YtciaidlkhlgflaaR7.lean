
import Derived.Test.YtciaidlkhlgflaaR5
import Derived.WalkKit
import Derived.WalkSpells
import Derived.WalkLawsBesides
import Derived.Lib.Hide
import Derived.Below
import Derived.Deep.QuietTactic
import Derived.BigQuiet
import Derived.Deep.RegionHeld3
import Derived.Deep.DrawnRows
import Derived.Deep.DeepFit
import Derived.IntWalk
namespace Go.Proofs.Ytciaidlkhlgflaa
open Go.RowKit
set_option linter.unusedVariables false
set_option linter.unusedSimpArgs false
attribute [local go_sem ↓] Go.wp_at_zero Go.wp_at_succ
attribute [local go_sem] rhoF_tmp rhoF_const rhoF_global rhoF_func

set_option maxHeartbeats 4000000 in
theorem within_any (a b c d s t u v : Int) (w : World) :
    Calls Try.prog 25 #[.agg #[.int .i64 a, .int .i64 b, .int .i64 c, .int .i64 d], .agg #[.int .i64 s, .int .i64 t, .int .i64 u, .int .i64 v]] w fun e w' => e = .returned (.bool (wB a b c d s t u v)) ∧ Below w.heap.size w w' := by
  have c1 := fun w => canon_any a b c d w
  obtain ⟨m0, j0⟩ : ∃ x, max (cn (eR a b c d) a) (cn (eR s t u v) s) = x := ⟨_, rfl⟩
  obtain ⟨m1, j1⟩ : ∃ x, max (cn (eR a b c d) b) (cn (eR s t u v) t) = x := ⟨_, rfl⟩
  obtain ⟨m2, j2⟩ : ∃ x, min (cn (eR a b c d) c) (cn (eR s t u v) u) = x := ⟨_, rfl⟩
  obtain ⟨m3, j3⟩ : ∃ x, min (cn (eR a b c d) d) (cn (eR s t u v) v) = x := ⟨_, rfl⟩
  have c2 := fun w => intersect_any a b c d s t u v m0 m1 m2 m3 j0 j1 j2 j3 w
  cases ea : eR a b c d with
  | true =>
    rw [ix_empty a b c d s t u v m0 m1 m2 m3 j0 j1 j2 j3 (.inl ea)] at c2
    rw [(wB_true a b c d s t u v).2 (.inl ea)]
    rw [ea] at c1
    simp only [cn_true] at c1 c2
    clear j0 j1 j2 j3 ea
    go_enter Try.func25, Try.ntmps25
    go_wp2
    refine wp_region_env (fun w' => w'.cell? ⟨w.heap.size, 0, none⟩ = some (.int .i64 a) ∧ w'.frozen? ⟨w.heap.size, 0, none⟩ = false ∧ w'.cell? ⟨w.heap.size, 1, none⟩ = some (.int .i64 b) ∧ w'.frozen? ⟨w.heap.size, 1, none⟩ = false ∧ w'.cell? ⟨w.heap.size, 2, none⟩ = some (.int .i64 c) ∧ w'.frozen? ⟨w.heap.size, 2, none⟩ = false ∧ w'.cell? ⟨w.heap.size, 3, none⟩ = some (.int .i64 d) ∧ w'.frozen? ⟨w.heap.size, 3, none⟩ = false ∧ w'.cell? ⟨w.heap.size + 1, 0, none⟩ = some (.int .i64 s) ∧ w'.frozen? ⟨w.heap.size + 1, 0, none⟩ = false ∧ w'.cell? ⟨w.heap.size + 1, 1, none⟩ = some (.int .i64 t) ∧ w'.frozen? ⟨w.heap.size + 1, 1, none⟩ = false ∧ w'.cell? ⟨w.heap.size + 1, 2, none⟩ = some (.int .i64 u) ∧ w'.frozen? ⟨w.heap.size + 1, 2, none⟩ = false ∧ w'.cell? ⟨w.heap.size + 1, 3, none⟩ = some (.int .i64 v) ∧ w'.frozen? ⟨w.heap.size + 1, 3, none⟩ = false) (fun W => W.cell? ⟨w.heap.size, 0, none⟩ = some (.int .i64 a) ∧ W.frozen? ⟨w.heap.size, 0, none⟩ = false ∧ W.cell? ⟨w.heap.size, 1, none⟩ = some (.int .i64 b) ∧ W.frozen? ⟨w.heap.size, 1, none⟩ = false ∧ W.cell? ⟨w.heap.size, 2, none⟩ = some (.int .i64 c) ∧ W.frozen? ⟨w.heap.size, 2, none⟩ = false ∧ W.cell? ⟨w.heap.size, 3, none⟩ = some (.int .i64 d) ∧ W.frozen? ⟨w.heap.size, 3, none⟩ = false ∧ W.cell? ⟨w.heap.size + 1, 0, none⟩ = some (.int .i64 s) ∧ W.frozen? ⟨w.heap.size + 1, 0, none⟩ = false ∧ W.cell? ⟨w.heap.size + 1, 1, none⟩ = some (.int .i64 t) ∧ W.frozen? ⟨w.heap.size + 1, 1, none⟩ = false ∧ W.cell? ⟨w.heap.size + 1, 2, none⟩ = some (.int .i64 u) ∧ W.frozen? ⟨w.heap.size + 1, 2, none⟩ = false ∧ W.cell? ⟨w.heap.size + 1, 3, none⟩ = some (.int .i64 v) ∧ W.frozen? ⟨w.heap.size + 1, 3, none⟩ = false ∧ Below w.heap.size w W ∧ w.heap.size + 1 + 1 ≤ W.heap.size) 7 11 [.val (.agg #[.int .i64 a, .int .i64 b, .int .i64 c, .int .i64 d]), .val (.agg #[.int .i64 s, .int .i64 t, .int .i64 u, .int .i64 v]), .call 17 #[.agg #[.int .i64 a, .int .i64 b, .int .i64 c, .int .i64 d], .agg #[.int .i64 s, .int .i64 t, .int .i64 u, .int .i64 v]] (.agg #[.int .i64 0, .int .i64 0, .int .i64 0, .int .i64 0]), .val (.agg #[.int .i64 a, .int .i64 b, .int .i64 c, .int .i64 d]), .call 26 #[.agg #[.int .i64 a, .int .i64 b, .int .i64 c, .int .i64 d]] (.agg #[.int .i64 0, .int .i64 0, .int .i64 0, .int .i64 0]), .val (.bool true), .val (.bool true)] (by kernel_rfl) (by kernel_rfl) rfl (by kernel_rfl) (by rintro w1 w2 ⟨h0, h1, h2, h3, h4, h5, h6, h7, h8, h9, h10, h11, h12, h13, h14, h15⟩ hb; exact ⟨bcs hb h0, bfs hb h0 h1, bcs hb h2, bfs hb h2 h3, bcs hb h4, bfs hb h4 h5, bcs hb h6, bfs hb h6 h7, bcs hb h8, bfs hb h8 h9, bcs hb h10, bfs hb h10 h11, bcs hb h12, bfs hb h12 h13, bcs hb h14, bfs hb h14 h15⟩) ⟨by first | with_reducible assumption | go_simp, by first | with_reducible assumption | go_simp, by first | with_reducible assumption | go_simp, by first | with_reducible assumption | go_simp, by first | with_reducible assumption | go_simp, by first | with_reducible assumption | go_simp, by first | with_reducible assumption | go_simp, by first | with_reducible assumption | go_simp, by first | with_reducible assumption | go_simp, by first | with_reducible assumption | go_simp, by first | with_reducible assumption | go_simp, by first | with_reducible assumption | go_simp, by first | with_reducible assumption | go_simp, by first | with_reducible assumption | go_simp, by first | with_reducible assumption | go_simp, by first | with_reducible assumption | go_simp, by repeat (first | with_reducible exact Below.refl _ _ | fail | with_reducible apply below_drewN | with_reducible apply Below.drew | (with_reducible refine Below.alloc ?_ (by first | (simp; done) | (simp; omega) | omega) _) | (with_reducible refine Below.setCell ?_ (by first | (simp; done) | (simp; omega) | omega) _)), by first | with_reducible assumption | (simp; done) | (simp; omega)⟩ ?_ ?_
    · rintro W ⟨k1_b2_0, g1_b2_0, k1_b2_1, g1_b2_1, k1_b2_2, g1_b2_2, k1_b2_3, g1_b2_3, k1_b3_0, g1_b3_0, k1_b3_1, g1_b3_1, k1_b3_2, g1_b3_2, k1_b3_3, g1_b3_3, B1, z1⟩; exact ⟨k1_b2_0, g1_b2_0, k1_b2_1, g1_b2_1, k1_b2_2, g1_b2_2, k1_b2_3, g1_b2_3, k1_b3_0, g1_b3_0, k1_b3_1, g1_b3_1, k1_b3_2, g1_b3_2, k1_b3_3, g1_b3_3⟩
    rintro w1 ⟨k1_b2_0, g1_b2_0, k1_b2_1, g1_b2_1, k1_b2_2, g1_b2_2, k1_b2_3, g1_b2_3, k1_b3_0, g1_b3_0, k1_b3_1, g1_b3_1, k1_b3_2, g1_b3_2, k1_b3_3, g1_b3_3, B1, z1⟩ gg
    simp only [List.take_succ_cons, List.take_zero, List.drop_succ_cons, List.drop_zero, List.cons_append, List.nil_append, List.append_nil]
    refine obe_val (by rfl) ?_ ?_
    · clear k1_b2_0 g1_b2_0 k1_b2_1 g1_b2_1 k1_b2_2 g1_b2_2 k1_b2_3 g1_b2_3 k1_b3_0 g1_b3_0 k1_b3_1 g1_b3_1 k1_b3_2 g1_b3_2 k1_b3_3 g1_b3_3 B1 z1; intro f hf; have u2 : f 2 = (.pointer (some ⟨w.heap.size, 0, none⟩)) := (by rw [← hf]; rfl); clear hf; rintro w' ⟨h0, h1, h2, h3, h4, h5, h6, h7, h8, h9, h10, h11, h12, h13, h14, h15⟩; go_simp; try exact IntWalk.i64_in _ (by omega)
    refine obe_val (by rfl) ?_ ?_
    · clear k1_b2_0 g1_b2_0 k1_b2_1 g1_b2_1 k1_b2_2 g1_b2_2 k1_b2_3 g1_b2_3 k1_b3_0 g1_b3_0 k1_b3_1 g1_b3_1 k1_b3_2 g1_b3_2 k1_b3_3 g1_b3_3 B1 z1; intro f hf; have u3 : f 3 = (.pointer (some ⟨w.heap.size + 1, 0, none⟩)) := (by rw [← hf]; rfl); clear hf; rintro w' ⟨h0, h1, h2, h3, h4, h5, h6, h7, h8, h9, h10, h11, h12, h13, h14, h15⟩; go_simp; try exact IntWalk.i64_in _ (by omega)
    refine obe_call (by rfl) ?_ ?_ ?_
    · clear k1_b2_0 g1_b2_0 k1_b2_1 g1_b2_1 k1_b2_2 g1_b2_2 k1_b2_3 g1_b2_3 k1_b3_0 g1_b3_0 k1_b3_1 g1_b3_1 k1_b3_2 g1_b3_2 k1_b3_3 g1_b3_3 B1 z1; intro f hf; have u5 : f 5 = (.agg #[.int .i64 a, .int .i64 b, .int .i64 c, .int .i64 d]) := (by rw [← hf]; rfl); have u6 : f 6 = (.agg #[.int .i64 s, .int .i64 t, .int .i64 u, .int .i64 v]) := (by rw [← hf]; rfl); clear hf; intro w' _; simp only [execOp, resolve, invoke, rhoF_tmp, rhoF_func, rhoF_const, u5, u6, List.map_toArray, List.map_cons, List.map_nil]; go_simp
    · clear k1_b2_0 g1_b2_0 k1_b2_1 g1_b2_1 k1_b2_2 g1_b2_2 k1_b2_3 g1_b2_3 k1_b3_0 g1_b3_0 k1_b3_1 g1_b3_1 k1_b3_2 g1_b3_2 k1_b3_3 g1_b3_3 B1 z1; rintro w' ⟨h0, h1, h2, h3, h4, h5, h6, h7, h8, h9, h10, h11, h12, h13, h14, h15⟩; exact c2 _
    refine obe_val (by rfl) ?_ ?_
    · clear k1_b2_0 g1_b2_0 k1_b2_1 g1_b2_1 k1_b2_2 g1_b2_2 k1_b2_3 g1_b2_3 k1_b3_0 g1_b3_0 k1_b3_1 g1_b3_1 k1_b3_2 g1_b3_2 k1_b3_3 g1_b3_3 B1 z1; intro f hf; have u2 : f 2 = (.pointer (some ⟨w.heap.size, 0, none⟩)) := (by rw [← hf]; rfl); clear hf; rintro w' ⟨h0, h1, h2, h3, h4, h5, h6, h7, h8, h9, h10, h11, h12, h13, h14, h15⟩; go_simp; try exact IntWalk.i64_in _ (by omega)
    refine obe_call (by rfl) ?_ ?_ ?_
    · clear k1_b2_0 g1_b2_0 k1_b2_1 g1_b2_1 k1_b2_2 g1_b2_2 k1_b2_3 g1_b2_3 k1_b3_0 g1_b3_0 k1_b3_1 g1_b3_1 k1_b3_2 g1_b3_2 k1_b3_3 g1_b3_3 B1 z1; intro f hf; have u8 : f 8 = (.agg #[.int .i64 a, .int .i64 b, .int .i64 c, .int .i64 d]) := (by rw [← hf]; rfl); clear hf; intro w' _; simp only [execOp, resolve, invoke, rhoF_tmp, rhoF_func, rhoF_const, u8, List.map_toArray, List.map_cons, List.map_nil]; go_simp
    · clear k1_b2_0 g1_b2_0 k1_b2_1 g1_b2_1 k1_b2_2 g1_b2_2 k1_b2_3 g1_b2_3 k1_b3_0 g1_b3_0 k1_b3_1 g1_b3_1 k1_b3_2 g1_b3_2 k1_b3_3 g1_b3_3 B1 z1; rintro w' ⟨h0, h1, h2, h3, h4, h5, h6, h7, h8, h9, h10, h11, h12, h13, h14, h15⟩; exact c1 _
    refine obe_val (by rfl) ?_ ?_
    · clear k1_b2_0 g1_b2_0 k1_b2_1 g1_b2_1 k1_b2_2 g1_b2_2 k1_b2_3 g1_b2_3 k1_b3_0 g1_b3_0 k1_b3_1 g1_b3_1 k1_b3_2 g1_b3_2 k1_b3_3 g1_b3_3 B1 z1; intro f hf; have u7 : f 7 = (.agg #[.int .i64 0, .int .i64 0, .int .i64 0, .int .i64 0]) := (by rw [← hf]; rfl); have u9 : f 9 = (.agg #[.int .i64 0, .int .i64 0, .int .i64 0, .int .i64 0]) := (by rw [← hf]; rfl); clear hf; rintro w' ⟨h0, h1, h2, h3, h4, h5, h6, h7, h8, h9, h10, h11, h12, h13, h14, h15⟩; go_simp; try exact IntWalk.i64_in _ (by omega)
    refine obe_val (by rfl) ?_ ?_
    · clear k1_b2_0 g1_b2_0 k1_b2_1 g1_b2_1 k1_b2_2 g1_b2_2 k1_b2_3 g1_b2_3 k1_b3_0 g1_b3_0 k1_b3_1 g1_b3_1 k1_b3_2 g1_b3_2 k1_b3_3 g1_b3_3 B1 z1; intro f hf; have u10 : f 10 = (.bool true) := (by rw [← hf]; rfl); clear hf; rintro w' ⟨h0, h1, h2, h3, h4, h5, h6, h7, h8, h9, h10, h11, h12, h13, h14, h15⟩; go_simp; try exact IntWalk.i64_in _ (by omega)
    refine obe_nil ?_
    rintro w2 ⟨h0, h1, h2, h3, h4, h5, h6, h7, h8, h9, h10, h11, h12, h13, h14, h15⟩ hb2 hF
    (try simp only [List.nil_append, List.append_nil, List.cons_append] at hF)
    simp only [puts, putD, Act.put, List.setIfInBounds_toArray, List.set_cons_zero, List.set_cons_succ]
    clear hF
    have k2_b2_0 := bcs hb2 k1_b2_0
    have g2_b2_0 := bfs hb2 k1_b2_0 g1_b2_0
    have k2_b2_1 := bcs hb2 k1_b2_1
    have g2_b2_1 := bfs hb2 k1_b2_1 g1_b2_1
    have k2_b2_2 := bcs hb2 k1_b2_2
    have g2_b2_2 := bfs hb2 k1_b2_2 g1_b2_2
    have k2_b2_3 := bcs hb2 k1_b2_3
    have g2_b2_3 := bfs hb2 k1_b2_3 g1_b2_3
    have k2_b3_0 := bcs hb2 k1_b3_0
    have g2_b3_0 := bfs hb2 k1_b3_0 g1_b3_0
    have k2_b3_1 := bcs hb2 k1_b3_1
    have g2_b3_1 := bfs hb2 k1_b3_1 g1_b3_1
    have k2_b3_2 := bcs hb2 k1_b3_2
    have g2_b3_2 := bfs hb2 k1_b3_2 g1_b3_2
    have k2_b3_3 := bcs hb2 k1_b3_3
    have g2_b3_3 := bfs hb2 k1_b3_3 g1_b3_3
    clear h0 h1 h2 h3 h4 h5 h6 h7 h8 h9 h10 h11 h12 h13 h14 h15
    have B2 := bel_step B1 hb2
    have z2 := Nat.le_trans z1 hb2.size
    clear hb2
    (try clear B1)
    (try clear z1)
    (try clear k1_b2_0)
    (try clear g1_b2_0)
    (try clear k1_b2_1)
    (try clear g1_b2_1)
    (try clear k1_b2_2)
    (try clear g1_b2_2)
    (try clear k1_b2_3)
    (try clear g1_b2_3)
    (try clear k1_b3_0)
    (try clear g1_b3_0)
    (try clear k1_b3_1)
    (try clear g1_b3_1)
    (try clear k1_b3_2)
    (try clear g1_b3_2)
    (try clear k1_b3_3)
    (try clear g1_b3_3)
    (try clear q1_b2)
    (try clear x1_b2)
    (try clear y1_b2)
    (try clear q1_b3)
    (try clear x1_b3)
    (try clear y1_b3)
    have q2_b2 : w.heap.size < w2.heap.size := qlt k2_b2_0
    have x2_b2 : ¬ w.heap.size = w2.heap.size := qne k2_b2_0
    have y2_b2 : ¬ w2.heap.size = w.heap.size := fun h => qne k2_b2_0 h.symm
    have q2_b3 : w.heap.size + 1 < w2.heap.size := qlt k2_b3_0
    have x2_b3 : ¬ w.heap.size + 1 = w2.heap.size := qne k2_b3_0
    have y2_b3 : ¬ w2.heap.size = w.heap.size + 1 := fun h => qne k2_b3_0 h.symm
    unfold wpList
    go_wp2
    go_ret
    refine ⟨rfl, ?_⟩
    repeat (first | with_reducible exact Below.refl _ _ | with_reducible exact B2 | with_reducible apply below_drewN | with_reducible apply Below.drew | (with_reducible refine Below.alloc ?_ (by first | (simp; done) | (simp; omega) | omega) _) | (with_reducible refine Below.setCell ?_ (by first | (simp; done) | (simp; omega) | omega) _))
  | false =>
    cases hw : wB a b c d s t u v with
    | true =>
      obtain ⟨k0, k1, k2, k3⟩ := within_eq a b c d s t u v m0 m1 m2 m3 j0 j1 j2 j3 ea hw
      rw [k0, k1, k2, k3, ea] at c2
      rw [ea] at c1
      simp only [cn_false] at c1 c2
      clear j0 j1 j2 j3 ea hw k0 k1 k2 k3
      go_enter Try.func25, Try.ntmps25
      go_wp2
      refine wp_region_env (fun w' => w'.cell? ⟨w.heap.size, 0, none⟩ = some (.int .i64 a) ∧ w'.frozen? ⟨w.heap.size, 0, none⟩ = false ∧ w'.cell? ⟨w.heap.size, 1, none⟩ = some (.int .i64 b) ∧ w'.frozen? ⟨w.heap.size, 1, none⟩ = false ∧ w'.cell? ⟨w.heap.size, 2, none⟩ = some (.int .i64 c) ∧ w'.frozen? ⟨w.heap.size, 2, none⟩ = false ∧ w'.cell? ⟨w.heap.size, 3, none⟩ = some (.int .i64 d) ∧ w'.frozen? ⟨w.heap.size, 3, none⟩ = false ∧ w'.cell? ⟨w.heap.size + 1, 0, none⟩ = some (.int .i64 s) ∧ w'.frozen? ⟨w.heap.size + 1, 0, none⟩ = false ∧ w'.cell? ⟨w.heap.size + 1, 1, none⟩ = some (.int .i64 t) ∧ w'.frozen? ⟨w.heap.size + 1, 1, none⟩ = false ∧ w'.cell? ⟨w.heap.size + 1, 2, none⟩ = some (.int .i64 u) ∧ w'.frozen? ⟨w.heap.size + 1, 2, none⟩ = false ∧ w'.cell? ⟨w.heap.size + 1, 3, none⟩ = some (.int .i64 v) ∧ w'.frozen? ⟨w.heap.size + 1, 3, none⟩ = false) (fun W => W.cell? ⟨w.heap.size, 0, none⟩ = some (.int .i64 a) ∧ W.frozen? ⟨w.heap.size, 0, none⟩ = false ∧ W.cell? ⟨w.heap.size, 1, none⟩ = some (.int .i64 b) ∧ W.frozen? ⟨w.heap.size, 1, none⟩ = false ∧ W.cell? ⟨w.heap.size, 2, none⟩ = some (.int .i64 c) ∧ W.frozen? ⟨w.heap.size, 2, none⟩ = false ∧ W.cell? ⟨w.heap.size, 3, none⟩ = some (.int .i64 d) ∧ W.frozen? ⟨w.heap.size, 3, none⟩ = false ∧ W.cell? ⟨w.heap.size + 1, 0, none⟩ = some (.int .i64 s) ∧ W.frozen? ⟨w.heap.size + 1, 0, none⟩ = false ∧ W.cell? ⟨w.heap.size + 1, 1, none⟩ = some (.int .i64 t) ∧ W.frozen? ⟨w.heap.size + 1, 1, none⟩ = false ∧ W.cell? ⟨w.heap.size + 1, 2, none⟩ = some (.int .i64 u) ∧ W.frozen? ⟨w.heap.size + 1, 2, none⟩ = false ∧ W.cell? ⟨w.heap.size + 1, 3, none⟩ = some (.int .i64 v) ∧ W.frozen? ⟨w.heap.size + 1, 3, none⟩ = false ∧ Below w.heap.size w W ∧ w.heap.size + 1 + 1 ≤ W.heap.size) 7 11 [.val (.agg #[.int .i64 a, .int .i64 b, .int .i64 c, .int .i64 d]), .val (.agg #[.int .i64 s, .int .i64 t, .int .i64 u, .int .i64 v]), .call 17 #[.agg #[.int .i64 a, .int .i64 b, .int .i64 c, .int .i64 d], .agg #[.int .i64 s, .int .i64 t, .int .i64 u, .int .i64 v]] (.agg #[.int .i64 a, .int .i64 b, .int .i64 c, .int .i64 d]), .val (.agg #[.int .i64 a, .int .i64 b, .int .i64 c, .int .i64 d]), .call 26 #[.agg #[.int .i64 a, .int .i64 b, .int .i64 c, .int .i64 d]] (.agg #[.int .i64 a, .int .i64 b, .int .i64 c, .int .i64 d]), .val (.bool true), .val (.bool true)] (by kernel_rfl) (by kernel_rfl) rfl (by kernel_rfl) (by rintro w1 w2 ⟨h0, h1, h2, h3, h4, h5, h6, h7, h8, h9, h10, h11, h12, h13, h14, h15⟩ hb; exact ⟨bcs hb h0, bfs hb h0 h1, bcs hb h2, bfs hb h2 h3, bcs hb h4, bfs hb h4 h5, bcs hb h6, bfs hb h6 h7, bcs hb h8, bfs hb h8 h9, bcs hb h10, bfs hb h10 h11, bcs hb h12, bfs hb h12 h13, bcs hb h14, bfs hb h14 h15⟩) ⟨by first | with_reducible assumption | go_simp, by first | with_reducible assumption | go_simp, by first | with_reducible assumption | go_simp, by first | with_reducible assumption | go_simp, by first | with_reducible assumption | go_simp, by first | with_reducible assumption | go_simp, by first | with_reducible assumption | go_simp, by first | with_reducible assumption | go_simp, by first | with_reducible assumption | go_simp, by first | with_reducible assumption | go_simp, by first | with_reducible assumption | go_simp, by first | with_reducible assumption | go_simp, by first | with_reducible assumption | go_simp, by first | with_reducible assumption | go_simp, by first | with_reducible assumption | go_simp, by first | with_reducible assumption | go_simp, by repeat (first | with_reducible exact Below.refl _ _ | fail | with_reducible apply below_drewN | with_reducible apply Below.drew | (with_reducible refine Below.alloc ?_ (by first | (simp; done) | (simp; omega) | omega) _) | (with_reducible refine Below.setCell ?_ (by first | (simp; done) | (simp; omega) | omega) _)), by first | with_reducible assumption | (simp; done) | (simp; omega)⟩ ?_ ?_
      · rintro W ⟨k1_b2_0, g1_b2_0, k1_b2_1, g1_b2_1, k1_b2_2, g1_b2_2, k1_b2_3, g1_b2_3, k1_b3_0, g1_b3_0, k1_b3_1, g1_b3_1, k1_b3_2, g1_b3_2, k1_b3_3, g1_b3_3, B1, z1⟩; exact ⟨k1_b2_0, g1_b2_0, k1_b2_1, g1_b2_1, k1_b2_2, g1_b2_2, k1_b2_3, g1_b2_3, k1_b3_0, g1_b3_0, k1_b3_1, g1_b3_1, k1_b3_2, g1_b3_2, k1_b3_3, g1_b3_3⟩
      rintro w1 ⟨k1_b2_0, g1_b2_0, k1_b2_1, g1_b2_1, k1_b2_2, g1_b2_2, k1_b2_3, g1_b2_3, k1_b3_0, g1_b3_0, k1_b3_1, g1_b3_1, k1_b3_2, g1_b3_2, k1_b3_3, g1_b3_3, B1, z1⟩ gg
      simp only [List.take_succ_cons, List.take_zero, List.drop_succ_cons, List.drop_zero, List.cons_append, List.nil_append, List.append_nil]
      refine obe_val (by rfl) ?_ ?_
      · clear k1_b2_0 g1_b2_0 k1_b2_1 g1_b2_1 k1_b2_2 g1_b2_2 k1_b2_3 g1_b2_3 k1_b3_0 g1_b3_0 k1_b3_1 g1_b3_1 k1_b3_2 g1_b3_2 k1_b3_3 g1_b3_3 B1 z1; intro f hf; have u2 : f 2 = (.pointer (some ⟨w.heap.size, 0, none⟩)) := (by rw [← hf]; rfl); clear hf; rintro w' ⟨h0, h1, h2, h3, h4, h5, h6, h7, h8, h9, h10, h11, h12, h13, h14, h15⟩; go_simp; try exact IntWalk.i64_in _ (by omega)
      refine obe_val (by rfl) ?_ ?_
      · clear k1_b2_0 g1_b2_0 k1_b2_1 g1_b2_1 k1_b2_2 g1_b2_2 k1_b2_3 g1_b2_3 k1_b3_0 g1_b3_0 k1_b3_1 g1_b3_1 k1_b3_2 g1_b3_2 k1_b3_3 g1_b3_3 B1 z1; intro f hf; have u3 : f 3 = (.pointer (some ⟨w.heap.size + 1, 0, none⟩)) := (by rw [← hf]; rfl); clear hf; rintro w' ⟨h0, h1, h2, h3, h4, h5, h6, h7, h8, h9, h10, h11, h12, h13, h14, h15⟩; go_simp; try exact IntWalk.i64_in _ (by omega)
      refine obe_call (by rfl) ?_ ?_ ?_
      · clear k1_b2_0 g1_b2_0 k1_b2_1 g1_b2_1 k1_b2_2 g1_b2_2 k1_b2_3 g1_b2_3 k1_b3_0 g1_b3_0 k1_b3_1 g1_b3_1 k1_b3_2 g1_b3_2 k1_b3_3 g1_b3_3 B1 z1; intro f hf; have u5 : f 5 = (.agg #[.int .i64 a, .int .i64 b, .int .i64 c, .int .i64 d]) := (by rw [← hf]; rfl); have u6 : f 6 = (.agg #[.int .i64 s, .int .i64 t, .int .i64 u, .int .i64 v]) := (by rw [← hf]; rfl); clear hf; intro w' _; simp only [execOp, resolve, invoke, rhoF_tmp, rhoF_func, rhoF_const, u5, u6, List.map_toArray, List.map_cons, List.map_nil]; go_simp
      · clear k1_b2_0 g1_b2_0 k1_b2_1 g1_b2_1 k1_b2_2 g1_b2_2 k1_b2_3 g1_b2_3 k1_b3_0 g1_b3_0 k1_b3_1 g1_b3_1 k1_b3_2 g1_b3_2 k1_b3_3 g1_b3_3 B1 z1; rintro w' ⟨h0, h1, h2, h3, h4, h5, h6, h7, h8, h9, h10, h11, h12, h13, h14, h15⟩; exact c2 _
      refine obe_val (by rfl) ?_ ?_
      · clear k1_b2_0 g1_b2_0 k1_b2_1 g1_b2_1 k1_b2_2 g1_b2_2 k1_b2_3 g1_b2_3 k1_b3_0 g1_b3_0 k1_b3_1 g1_b3_1 k1_b3_2 g1_b3_2 k1_b3_3 g1_b3_3 B1 z1; intro f hf; have u2 : f 2 = (.pointer (some ⟨w.heap.size, 0, none⟩)) := (by rw [← hf]; rfl); clear hf; rintro w' ⟨h0, h1, h2, h3, h4, h5, h6, h7, h8, h9, h10, h11, h12, h13, h14, h15⟩; go_simp; try exact IntWalk.i64_in _ (by omega)
      refine obe_call (by rfl) ?_ ?_ ?_
      · clear k1_b2_0 g1_b2_0 k1_b2_1 g1_b2_1 k1_b2_2 g1_b2_2 k1_b2_3 g1_b2_3 k1_b3_0 g1_b3_0 k1_b3_1 g1_b3_1 k1_b3_2 g1_b3_2 k1_b3_3 g1_b3_3 B1 z1; intro f hf; have u8 : f 8 = (.agg #[.int .i64 a, .int .i64 b, .int .i64 c, .int .i64 d]) := (by rw [← hf]; rfl); clear hf; intro w' _; simp only [execOp, resolve, invoke, rhoF_tmp, rhoF_func, rhoF_const, u8, List.map_toArray, List.map_cons, List.map_nil]; go_simp
      · clear k1_b2_0 g1_b2_0 k1_b2_1 g1_b2_1 k1_b2_2 g1_b2_2 k1_b2_3 g1_b2_3 k1_b3_0 g1_b3_0 k1_b3_1 g1_b3_1 k1_b3_2 g1_b3_2 k1_b3_3 g1_b3_3 B1 z1; rintro w' ⟨h0, h1, h2, h3, h4, h5, h6, h7, h8, h9, h10, h11, h12, h13, h14, h15⟩; exact c1 _
      refine obe_val (by rfl) ?_ ?_
      · clear k1_b2_0 g1_b2_0 k1_b2_1 g1_b2_1 k1_b2_2 g1_b2_2 k1_b2_3 g1_b2_3 k1_b3_0 g1_b3_0 k1_b3_1 g1_b3_1 k1_b3_2 g1_b3_2 k1_b3_3 g1_b3_3 B1 z1; intro f hf; have u7 : f 7 = (.agg #[.int .i64 a, .int .i64 b, .int .i64 c, .int .i64 d]) := (by rw [← hf]; rfl); have u9 : f 9 = (.agg #[.int .i64 a, .int .i64 b, .int .i64 c, .int .i64 d]) := (by rw [← hf]; rfl); clear hf; rintro w' ⟨h0, h1, h2, h3, h4, h5, h6, h7, h8, h9, h10, h11, h12, h13, h14, h15⟩; go_simp; try exact IntWalk.i64_in _ (by omega)
      refine obe_val (by rfl) ?_ ?_
      · clear k1_b2_0 g1_b2_0 k1_b2_1 g1_b2_1 k1_b2_2 g1_b2_2 k1_b2_3 g1_b2_3 k1_b3_0 g1_b3_0 k1_b3_1 g1_b3_1 k1_b3_2 g1_b3_2 k1_b3_3 g1_b3_3 B1 z1; intro f hf; have u10 : f 10 = (.bool true) := (by rw [← hf]; rfl); clear hf; rintro w' ⟨h0, h1, h2, h3, h4, h5, h6, h7, h8, h9, h10, h11, h12, h13, h14, h15⟩; go_simp; try exact IntWalk.i64_in _ (by omega)
      refine obe_nil ?_
      rintro w2 ⟨h0, h1, h2, h3, h4, h5, h6, h7, h8, h9, h10, h11, h12, h13, h14, h15⟩ hb2 hF
      (try simp only [List.nil_append, List.append_nil, List.cons_append] at hF)
      simp only [puts, putD, Act.put, List.setIfInBounds_toArray, List.set_cons_zero, List.set_cons_succ]
      clear hF
      have k2_b2_0 := bcs hb2 k1_b2_0
      have g2_b2_0 := bfs hb2 k1_b2_0 g1_b2_0
      have k2_b2_1 := bcs hb2 k1_b2_1
      have g2_b2_1 := bfs hb2 k1_b2_1 g1_b2_1
      have k2_b2_2 := bcs hb2 k1_b2_2
      have g2_b2_2 := bfs hb2 k1_b2_2 g1_b2_2
      have k2_b2_3 := bcs hb2 k1_b2_3
      have g2_b2_3 := bfs hb2 k1_b2_3 g1_b2_3
      have k2_b3_0 := bcs hb2 k1_b3_0
      have g2_b3_0 := bfs hb2 k1_b3_0 g1_b3_0
      have k2_b3_1 := bcs hb2 k1_b3_1
      have g2_b3_1 := bfs hb2 k1_b3_1 g1_b3_1
      have k2_b3_2 := bcs hb2 k1_b3_2
      have g2_b3_2 := bfs hb2 k1_b3_2 g1_b3_2
      have k2_b3_3 := bcs hb2 k1_b3_3
      have g2_b3_3 := bfs hb2 k1_b3_3 g1_b3_3
      clear h0 h1 h2 h3 h4 h5 h6 h7 h8 h9 h10 h11 h12 h13 h14 h15
      have B2 := bel_step B1 hb2
      have z2 := Nat.le_trans z1 hb2.size
      clear hb2
      (try clear B1)
      (try clear z1)
      (try clear k1_b2_0)
      (try clear g1_b2_0)
      (try clear k1_b2_1)
      (try clear g1_b2_1)
      (try clear k1_b2_2)
      (try clear g1_b2_2)
      (try clear k1_b2_3)
      (try clear g1_b2_3)
      (try clear k1_b3_0)
      (try clear g1_b3_0)
      (try clear k1_b3_1)
      (try clear g1_b3_1)
      (try clear k1_b3_2)
      (try clear g1_b3_2)
      (try clear k1_b3_3)
      (try clear g1_b3_3)
      (try clear q1_b2)
      (try clear x1_b2)
      (try clear y1_b2)
      (try clear q1_b3)
      (try clear x1_b3)
      (try clear y1_b3)
      have q2_b2 : w.heap.size < w2.heap.size := qlt k2_b2_0
      have x2_b2 : ¬ w.heap.size = w2.heap.size := qne k2_b2_0
      have y2_b2 : ¬ w2.heap.size = w.heap.size := fun h => qne k2_b2_0 h.symm
      have q2_b3 : w.heap.size + 1 < w2.heap.size := qlt k2_b3_0
      have x2_b3 : ¬ w.heap.size + 1 = w2.heap.size := qne k2_b3_0
      have y2_b3 : ¬ w2.heap.size = w.heap.size + 1 := fun h => qne k2_b3_0 h.symm
      unfold wpList
      go_wp2
      go_ret
      refine ⟨rfl, ?_⟩
      repeat (first | with_reducible exact Below.refl _ _ | with_reducible exact B2 | with_reducible apply below_drewN | with_reducible apply Below.drew | (with_reducible refine Below.alloc ?_ (by first | (simp; done) | (simp; omega) | omega) _) | (with_reducible refine Below.setCell ?_ (by first | (simp; done) | (simp; omega) | omega) _))
    | false =>
      have hn := within_ne a b c d s t u v m0 m1 m2 m3 j0 j1 j2 j3 ea hw
      rw [ea] at c1
      simp only [cn_false] at c1
      obtain ⟨M0, eM0⟩ : ∃ x, cn (eR m0 m1 m2 m3) m0 = x := ⟨_, rfl⟩
      obtain ⟨M1, eM1⟩ : ∃ x, cn (eR m0 m1 m2 m3) m1 = x := ⟨_, rfl⟩
      obtain ⟨M2, eM2⟩ : ∃ x, cn (eR m0 m1 m2 m3) m2 = x := ⟨_, rfl⟩
      obtain ⟨M3, eM3⟩ : ∃ x, cn (eR m0 m1 m2 m3) m3 = x := ⟨_, rfl⟩
      rw [eM0, eM1, eM2, eM3] at c2 hn
      clear eM0 eM1 eM2 eM3 j0 j1 j2 j3 ea hw
      by_cases z0 : M0 = a
      case neg =>
        have n0 : (M0 == a) = false := by simpa using z0
        clear hn z0
        go_enter Try.func25, Try.ntmps25
        go_wp2
        refine wp_region_env (fun w' => w'.cell? ⟨w.heap.size, 0, none⟩ = some (.int .i64 a) ∧ w'.frozen? ⟨w.heap.size, 0, none⟩ = false ∧ w'.cell? ⟨w.heap.size, 1, none⟩ = some (.int .i64 b) ∧ w'.frozen? ⟨w.heap.size, 1, none⟩ = false ∧ w'.cell? ⟨w.heap.size, 2, none⟩ = some (.int .i64 c) ∧ w'.frozen? ⟨w.heap.size, 2, none⟩ = false ∧ w'.cell? ⟨w.heap.size, 3, none⟩ = some (.int .i64 d) ∧ w'.frozen? ⟨w.heap.size, 3, none⟩ = false ∧ w'.cell? ⟨w.heap.size + 1, 0, none⟩ = some (.int .i64 s) ∧ w'.frozen? ⟨w.heap.size + 1, 0, none⟩ = false ∧ w'.cell? ⟨w.heap.size + 1, 1, none⟩ = some (.int .i64 t) ∧ w'.frozen? ⟨w.heap.size + 1, 1, none⟩ = false ∧ w'.cell? ⟨w.heap.size + 1, 2, none⟩ = some (.int .i64 u) ∧ w'.frozen? ⟨w.heap.size + 1, 2, none⟩ = false ∧ w'.cell? ⟨w.heap.size + 1, 3, none⟩ = some (.int .i64 v) ∧ w'.frozen? ⟨w.heap.size + 1, 3, none⟩ = false) (fun W => W.cell? ⟨w.heap.size, 0, none⟩ = some (.int .i64 a) ∧ W.frozen? ⟨w.heap.size, 0, none⟩ = false ∧ W.cell? ⟨w.heap.size, 1, none⟩ = some (.int .i64 b) ∧ W.frozen? ⟨w.heap.size, 1, none⟩ = false ∧ W.cell? ⟨w.heap.size, 2, none⟩ = some (.int .i64 c) ∧ W.frozen? ⟨w.heap.size, 2, none⟩ = false ∧ W.cell? ⟨w.heap.size, 3, none⟩ = some (.int .i64 d) ∧ W.frozen? ⟨w.heap.size, 3, none⟩ = false ∧ W.cell? ⟨w.heap.size + 1, 0, none⟩ = some (.int .i64 s) ∧ W.frozen? ⟨w.heap.size + 1, 0, none⟩ = false ∧ W.cell? ⟨w.heap.size + 1, 1, none⟩ = some (.int .i64 t) ∧ W.frozen? ⟨w.heap.size + 1, 1, none⟩ = false ∧ W.cell? ⟨w.heap.size + 1, 2, none⟩ = some (.int .i64 u) ∧ W.frozen? ⟨w.heap.size + 1, 2, none⟩ = false ∧ W.cell? ⟨w.heap.size + 1, 3, none⟩ = some (.int .i64 v) ∧ W.frozen? ⟨w.heap.size + 1, 3, none⟩ = false ∧ Below w.heap.size w W ∧ w.heap.size + 1 + 1 ≤ W.heap.size) 7 11 [.val (.agg #[.int .i64 a, .int .i64 b, .int .i64 c, .int .i64 d]), .val (.agg #[.int .i64 s, .int .i64 t, .int .i64 u, .int .i64 v]), .call 17 #[.agg #[.int .i64 a, .int .i64 b, .int .i64 c, .int .i64 d], .agg #[.int .i64 s, .int .i64 t, .int .i64 u, .int .i64 v]] (.agg #[.int .i64 M0, .int .i64 M1, .int .i64 M2, .int .i64 M3]), .val (.agg #[.int .i64 a, .int .i64 b, .int .i64 c, .int .i64 d]), .call 26 #[.agg #[.int .i64 a, .int .i64 b, .int .i64 c, .int .i64 d]] (.agg #[.int .i64 a, .int .i64 b, .int .i64 c, .int .i64 d]), .val (.bool false), .val (.bool false)] (by kernel_rfl) (by kernel_rfl) rfl (by kernel_rfl) (by rintro w1 w2 ⟨h0, h1, h2, h3, h4, h5, h6, h7, h8, h9, h10, h11, h12, h13, h14, h15⟩ hb; exact ⟨bcs hb h0, bfs hb h0 h1, bcs hb h2, bfs hb h2 h3, bcs hb h4, bfs hb h4 h5, bcs hb h6, bfs hb h6 h7, bcs hb h8, bfs hb h8 h9, bcs hb h10, bfs hb h10 h11, bcs hb h12, bfs hb h12 h13, bcs hb h14, bfs hb h14 h15⟩) ⟨by first | with_reducible assumption | go_simp, by first | with_reducible assumption | go_simp, by first | with_reducible assumption | go_simp, by first | with_reducible assumption | go_simp, by first | with_reducible assumption | go_simp, by first | with_reducible assumption | go_simp, by first | with_reducible assumption | go_simp, by first | with_reducible assumption | go_simp, by first | with_reducible assumption | go_simp, by first | with_reducible assumption | go_simp, by first | with_reducible assumption | go_simp, by first | with_reducible assumption | go_simp, by first | with_reducible assumption | go_simp, by first | with_reducible assumption | go_simp, by first | with_reducible assumption | go_simp, by first | with_reducible assumption | go_simp, by repeat (first | with_reducible exact Below.refl _ _ | fail | with_reducible apply below_drewN | with_reducible apply Below.drew | (with_reducible refine Below.alloc ?_ (by first | (simp; done) | (simp; omega) | omega) _) | (with_reducible refine Below.setCell ?_ (by first | (simp; done) | (simp; omega) | omega) _)), by first | with_reducible assumption | (simp; done) | (simp; omega)⟩ ?_ ?_
        · rintro W ⟨k1_b2_0, g1_b2_0, k1_b2_1, g1_b2_1, k1_b2_2, g1_b2_2, k1_b2_3, g1_b2_3, k1_b3_0, g1_b3_0, k1_b3_1, g1_b3_1, k1_b3_2, g1_b3_2, k1_b3_3, g1_b3_3, B1, z1⟩; exact ⟨k1_b2_0, g1_b2_0, k1_b2_1, g1_b2_1, k1_b2_2, g1_b2_2, k1_b2_3, g1_b2_3, k1_b3_0, g1_b3_0, k1_b3_1, g1_b3_1, k1_b3_2, g1_b3_2, k1_b3_3, g1_b3_3⟩
        rintro w1 ⟨k1_b2_0, g1_b2_0, k1_b2_1, g1_b2_1, k1_b2_2, g1_b2_2, k1_b2_3, g1_b2_3, k1_b3_0, g1_b3_0, k1_b3_1, g1_b3_1, k1_b3_2, g1_b3_2, k1_b3_3, g1_b3_3, B1, z1⟩ gg
        simp only [List.take_succ_cons, List.take_zero, List.drop_succ_cons, List.drop_zero, List.cons_append, List.nil_append, List.append_nil]
        refine obe_val (by rfl) ?_ ?_
        · clear k1_b2_0 g1_b2_0 k1_b2_1 g1_b2_1 k1_b2_2 g1_b2_2 k1_b2_3 g1_b2_3 k1_b3_0 g1_b3_0 k1_b3_1 g1_b3_1 k1_b3_2 g1_b3_2 k1_b3_3 g1_b3_3 B1 z1; intro f hf; have u2 : f 2 = (.pointer (some ⟨w.heap.size, 0, none⟩)) := (by rw [← hf]; rfl); clear hf; rintro w' ⟨h0, h1, h2, h3, h4, h5, h6, h7, h8, h9, h10, h11, h12, h13, h14, h15⟩; go_simp; try exact IntWalk.i64_in _ (by omega)
        refine obe_val (by rfl) ?_ ?_
        · clear k1_b2_0 g1_b2_0 k1_b2_1 g1_b2_1 k1_b2_2 g1_b2_2 k1_b2_3 g1_b2_3 k1_b3_0 g1_b3_0 k1_b3_1 g1_b3_1 k1_b3_2 g1_b3_2 k1_b3_3 g1_b3_3 B1 z1; intro f hf; have u3 : f 3 = (.pointer (some ⟨w.heap.size + 1, 0, none⟩)) := (by rw [← hf]; rfl); clear hf; rintro w' ⟨h0, h1, h2, h3, h4, h5, h6, h7, h8, h9, h10, h11, h12, h13, h14, h15⟩; go_simp; try exact IntWalk.i64_in _ (by omega)
        refine obe_call (by rfl) ?_ ?_ ?_
        · clear k1_b2_0 g1_b2_0 k1_b2_1 g1_b2_1 k1_b2_2 g1_b2_2 k1_b2_3 g1_b2_3 k1_b3_0 g1_b3_0 k1_b3_1 g1_b3_1 k1_b3_2 g1_b3_2 k1_b3_3 g1_b3_3 B1 z1; intro f hf; have u5 : f 5 = (.agg #[.int .i64 a, .int .i64 b, .int .i64 c, .int .i64 d]) := (by rw [← hf]; rfl); have u6 : f 6 = (.agg #[.int .i64 s, .int .i64 t, .int .i64 u, .int .i64 v]) := (by rw [← hf]; rfl); clear hf; intro w' _; simp only [execOp, resolve, invoke, rhoF_tmp, rhoF_func, rhoF_const, u5, u6, List.map_toArray, List.map_cons, List.map_nil]; go_simp
        · clear k1_b2_0 g1_b2_0 k1_b2_1 g1_b2_1 k1_b2_2 g1_b2_2 k1_b2_3 g1_b2_3 k1_b3_0 g1_b3_0 k1_b3_1 g1_b3_1 k1_b3_2 g1_b3_2 k1_b3_3 g1_b3_3 B1 z1; rintro w' ⟨h0, h1, h2, h3, h4, h5, h6, h7, h8, h9, h10, h11, h12, h13, h14, h15⟩; exact c2 _
        refine obe_val (by rfl) ?_ ?_
        · clear k1_b2_0 g1_b2_0 k1_b2_1 g1_b2_1 k1_b2_2 g1_b2_2 k1_b2_3 g1_b2_3 k1_b3_0 g1_b3_0 k1_b3_1 g1_b3_1 k1_b3_2 g1_b3_2 k1_b3_3 g1_b3_3 B1 z1; intro f hf; have u2 : f 2 = (.pointer (some ⟨w.heap.size, 0, none⟩)) := (by rw [← hf]; rfl); clear hf; rintro w' ⟨h0, h1, h2, h3, h4, h5, h6, h7, h8, h9, h10, h11, h12, h13, h14, h15⟩; go_simp; try exact IntWalk.i64_in _ (by omega)
        refine obe_call (by rfl) ?_ ?_ ?_
        · clear k1_b2_0 g1_b2_0 k1_b2_1 g1_b2_1 k1_b2_2 g1_b2_2 k1_b2_3 g1_b2_3 k1_b3_0 g1_b3_0 k1_b3_1 g1_b3_1 k1_b3_2 g1_b3_2 k1_b3_3 g1_b3_3 B1 z1; intro f hf; have u8 : f 8 = (.agg #[.int .i64 a, .int .i64 b, .int .i64 c, .int .i64 d]) := (by rw [← hf]; rfl); clear hf; intro w' _; simp only [execOp, resolve, invoke, rhoF_tmp, rhoF_func, rhoF_const, u8, List.map_toArray, List.map_cons, List.map_nil]; go_simp
        · clear k1_b2_0 g1_b2_0 k1_b2_1 g1_b2_1 k1_b2_2 g1_b2_2 k1_b2_3 g1_b2_3 k1_b3_0 g1_b3_0 k1_b3_1 g1_b3_1 k1_b3_2 g1_b3_2 k1_b3_3 g1_b3_3 B1 z1; rintro w' ⟨h0, h1, h2, h3, h4, h5, h6, h7, h8, h9, h10, h11, h12, h13, h14, h15⟩; exact c1 _
        refine obe_val (by rfl) ?_ ?_
        · clear k1_b2_0 g1_b2_0 k1_b2_1 g1_b2_1 k1_b2_2 g1_b2_2 k1_b2_3 g1_b2_3 k1_b3_0 g1_b3_0 k1_b3_1 g1_b3_1 k1_b3_2 g1_b3_2 k1_b3_3 g1_b3_3 B1 z1; intro f hf; have u7 : f 7 = (.agg #[.int .i64 M0, .int .i64 M1, .int .i64 M2, .int .i64 M3]) := (by rw [← hf]; rfl); have u9 : f 9 = (.agg #[.int .i64 a, .int .i64 b, .int .i64 c, .int .i64 d]) := (by rw [← hf]; rfl); clear hf; rintro w' ⟨h0, h1, h2, h3, h4, h5, h6, h7, h8, h9, h10, h11, h12, h13, h14, h15⟩; go_simp; try exact IntWalk.i64_in _ (by omega)
        refine obe_val (by rfl) ?_ ?_
        · clear k1_b2_0 g1_b2_0 k1_b2_1 g1_b2_1 k1_b2_2 g1_b2_2 k1_b2_3 g1_b2_3 k1_b3_0 g1_b3_0 k1_b3_1 g1_b3_1 k1_b3_2 g1_b3_2 k1_b3_3 g1_b3_3 B1 z1; intro f hf; have u10 : f 10 = (.bool false) := (by rw [← hf]; rfl); clear hf; rintro w' ⟨h0, h1, h2, h3, h4, h5, h6, h7, h8, h9, h10, h11, h12, h13, h14, h15⟩; go_simp; try exact IntWalk.i64_in _ (by omega)
        refine obe_nil ?_
        rintro w2 ⟨h0, h1, h2, h3, h4, h5, h6, h7, h8, h9, h10, h11, h12, h13, h14, h15⟩ hb2 hF
        (try simp only [List.nil_append, List.append_nil, List.cons_append] at hF)
        simp only [puts, putD, Act.put, List.setIfInBounds_toArray, List.set_cons_zero, List.set_cons_succ]
        clear hF
        have k2_b2_0 := bcs hb2 k1_b2_0
        have g2_b2_0 := bfs hb2 k1_b2_0 g1_b2_0
        have k2_b2_1 := bcs hb2 k1_b2_1
        have g2_b2_1 := bfs hb2 k1_b2_1 g1_b2_1
        have k2_b2_2 := bcs hb2 k1_b2_2
        have g2_b2_2 := bfs hb2 k1_b2_2 g1_b2_2
        have k2_b2_3 := bcs hb2 k1_b2_3
        have g2_b2_3 := bfs hb2 k1_b2_3 g1_b2_3
        have k2_b3_0 := bcs hb2 k1_b3_0
        have g2_b3_0 := bfs hb2 k1_b3_0 g1_b3_0
        have k2_b3_1 := bcs hb2 k1_b3_1
        have g2_b3_1 := bfs hb2 k1_b3_1 g1_b3_1
        have k2_b3_2 := bcs hb2 k1_b3_2
        have g2_b3_2 := bfs hb2 k1_b3_2 g1_b3_2
        have k2_b3_3 := bcs hb2 k1_b3_3
        have g2_b3_3 := bfs hb2 k1_b3_3 g1_b3_3
        clear h0 h1 h2 h3 h4 h5 h6 h7 h8 h9 h10 h11 h12 h13 h14 h15
        have B2 := bel_step B1 hb2
        have z2 := Nat.le_trans z1 hb2.size
        clear hb2
        (try clear B1)
        (try clear z1)
        (try clear k1_b2_0)
        (try clear g1_b2_0)
        (try clear k1_b2_1)
        (try clear g1_b2_1)
        (try clear k1_b2_2)
        (try clear g1_b2_2)
        (try clear k1_b2_3)
        (try clear g1_b2_3)
        (try clear k1_b3_0)
        (try clear g1_b3_0)
        (try clear k1_b3_1)
        (try clear g1_b3_1)
        (try clear k1_b3_2)
        (try clear g1_b3_2)
        (try clear k1_b3_3)
        (try clear g1_b3_3)
        (try clear q1_b2)
        (try clear x1_b2)
        (try clear y1_b2)
        (try clear q1_b3)
        (try clear x1_b3)
        (try clear y1_b3)
        have q2_b2 : w.heap.size < w2.heap.size := qlt k2_b2_0
        have x2_b2 : ¬ w.heap.size = w2.heap.size := qne k2_b2_0
        have y2_b2 : ¬ w2.heap.size = w.heap.size := fun h => qne k2_b2_0 h.symm
        have q2_b3 : w.heap.size + 1 < w2.heap.size := qlt k2_b3_0
        have x2_b3 : ¬ w.heap.size + 1 = w2.heap.size := qne k2_b3_0
        have y2_b3 : ¬ w2.heap.size = w.heap.size + 1 := fun h => qne k2_b3_0 h.symm
        unfold wpList
        go_wp2
        go_ret
        refine ⟨rfl, ?_⟩
        repeat (first | with_reducible exact Below.refl _ _ | with_reducible exact B2 | with_reducible apply below_drewN | with_reducible apply Below.drew | (with_reducible refine Below.alloc ?_ (by first | (simp; done) | (simp; omega) | omega) _) | (with_reducible refine Below.setCell ?_ (by first | (simp; done) | (simp; omega) | omega) _))
      by_cases z1 : M1 = b
      case neg =>
        have n0 : (M0 == a) = true := by simpa using z0
        have n1 : (M1 == b) = false := by simpa using z1
        clear hn z0 z1
        go_enter Try.func25, Try.ntmps25
        go_wp2
        refine wp_region_env (fun w' => w'.cell? ⟨w.heap.size, 0, none⟩ = some (.int .i64 a) ∧ w'.frozen? ⟨w.heap.size, 0, none⟩ = false ∧ w'.cell? ⟨w.heap.size, 1, none⟩ = some (.int .i64 b) ∧ w'.frozen? ⟨w.heap.size, 1, none⟩ = false ∧ w'.cell? ⟨w.heap.size, 2, none⟩ = some (.int .i64 c) ∧ w'.frozen? ⟨w.heap.size, 2, none⟩ = false ∧ w'.cell? ⟨w.heap.size, 3, none⟩ = some (.int .i64 d) ∧ w'.frozen? ⟨w.heap.size, 3, none⟩ = false ∧ w'.cell? ⟨w.heap.size + 1, 0, none⟩ = some (.int .i64 s) ∧ w'.frozen? ⟨w.heap.size + 1, 0, none⟩ = false ∧ w'.cell? ⟨w.heap.size + 1, 1, none⟩ = some (.int .i64 t) ∧ w'.frozen? ⟨w.heap.size + 1, 1, none⟩ = false ∧ w'.cell? ⟨w.heap.size + 1, 2, none⟩ = some (.int .i64 u) ∧ w'.frozen? ⟨w.heap.size + 1, 2, none⟩ = false ∧ w'.cell? ⟨w.heap.size + 1, 3, none⟩ = some (.int .i64 v) ∧ w'.frozen? ⟨w.heap.size + 1, 3, none⟩ = false) (fun W => W.cell? ⟨w.heap.size, 0, none⟩ = some (.int .i64 a) ∧ W.frozen? ⟨w.heap.size, 0, none⟩ = false ∧ W.cell? ⟨w.heap.size, 1, none⟩ = some (.int .i64 b) ∧ W.frozen? ⟨w.heap.size, 1, none⟩ = false ∧ W.cell? ⟨w.heap.size, 2, none⟩ = some (.int .i64 c) ∧ W.frozen? ⟨w.heap.size, 2, none⟩ = false ∧ W.cell? ⟨w.heap.size, 3, none⟩ = some (.int .i64 d) ∧ W.frozen? ⟨w.heap.size, 3, none⟩ = false ∧ W.cell? ⟨w.heap.size + 1, 0, none⟩ = some (.int .i64 s) ∧ W.frozen? ⟨w.heap.size + 1, 0, none⟩ = false ∧ W.cell? ⟨w.heap.size + 1, 1, none⟩ = some (.int .i64 t) ∧ W.frozen? ⟨w.heap.size + 1, 1, none⟩ = false ∧ W.cell? ⟨w.heap.size + 1, 2, none⟩ = some (.int .i64 u) ∧ W.frozen? ⟨w.heap.size + 1, 2, none⟩ = false ∧ W.cell? ⟨w.heap.size + 1, 3, none⟩ = some (.int .i64 v) ∧ W.frozen? ⟨w.heap.size + 1, 3, none⟩ = false ∧ Below w.heap.size w W ∧ w.heap.size + 1 + 1 ≤ W.heap.size) 7 11 [.val (.agg #[.int .i64 a, .int .i64 b, .int .i64 c, .int .i64 d]), .val (.agg #[.int .i64 s, .int .i64 t, .int .i64 u, .int .i64 v]), .call 17 #[.agg #[.int .i64 a, .int .i64 b, .int .i64 c, .int .i64 d], .agg #[.int .i64 s, .int .i64 t, .int .i64 u, .int .i64 v]] (.agg #[.int .i64 M0, .int .i64 M1, .int .i64 M2, .int .i64 M3]), .val (.agg #[.int .i64 a, .int .i64 b, .int .i64 c, .int .i64 d]), .call 26 #[.agg #[.int .i64 a, .int .i64 b, .int .i64 c, .int .i64 d]] (.agg #[.int .i64 a, .int .i64 b, .int .i64 c, .int .i64 d]), .val (.bool false), .val (.bool false)] (by kernel_rfl) (by kernel_rfl) rfl (by kernel_rfl) (by rintro w1 w2 ⟨h0, h1, h2, h3, h4, h5, h6, h7, h8, h9, h10, h11, h12, h13, h14, h15⟩ hb; exact ⟨bcs hb h0, bfs hb h0 h1, bcs hb h2, bfs hb h2 h3, bcs hb h4, bfs hb h4 h5, bcs hb h6, bfs hb h6 h7, bcs hb h8, bfs hb h8 h9, bcs hb h10, bfs hb h10 h11, bcs hb h12, bfs hb h12 h13, bcs hb h14, bfs hb h14 h15⟩) ⟨by first | with_reducible assumption | go_simp, by first | with_reducible assumption | go_simp, by first | with_reducible assumption | go_simp, by first | with_reducible assumption | go_simp, by first | with_reducible assumption | go_simp, by first | with_reducible assumption | go_simp, by first | with_reducible assumption | go_simp, by first | with_reducible assumption | go_simp, by first | with_reducible assumption | go_simp, by first | with_reducible assumption | go_simp, by first | with_reducible assumption | go_simp, by first | with_reducible assumption | go_simp, by first | with_reducible assumption | go_simp, by first | with_reducible assumption | go_simp, by first | with_reducible assumption | go_simp, by first | with_reducible assumption | go_simp, by repeat (first | with_reducible exact Below.refl _ _ | fail | with_reducible apply below_drewN | with_reducible apply Below.drew | (with_reducible refine Below.alloc ?_ (by first | (simp; done) | (simp; omega) | omega) _) | (with_reducible refine Below.setCell ?_ (by first | (simp; done) | (simp; omega) | omega) _)), by first | with_reducible assumption | (simp; done) | (simp; omega)⟩ ?_ ?_
        · rintro W ⟨k1_b2_0, g1_b2_0, k1_b2_1, g1_b2_1, k1_b2_2, g1_b2_2, k1_b2_3, g1_b2_3, k1_b3_0, g1_b3_0, k1_b3_1, g1_b3_1, k1_b3_2, g1_b3_2, k1_b3_3, g1_b3_3, B1, z1⟩; exact ⟨k1_b2_0, g1_b2_0, k1_b2_1, g1_b2_1, k1_b2_2, g1_b2_2, k1_b2_3, g1_b2_3, k1_b3_0, g1_b3_0, k1_b3_1, g1_b3_1, k1_b3_2, g1_b3_2, k1_b3_3, g1_b3_3⟩
        rintro w1 ⟨k1_b2_0, g1_b2_0, k1_b2_1, g1_b2_1, k1_b2_2, g1_b2_2, k1_b2_3, g1_b2_3, k1_b3_0, g1_b3_0, k1_b3_1, g1_b3_1, k1_b3_2, g1_b3_2, k1_b3_3, g1_b3_3, B1, z1⟩ gg
        simp only [List.take_succ_cons, List.take_zero, List.drop_succ_cons, List.drop_zero, List.cons_append, List.nil_append, List.append_nil]
        refine obe_val (by rfl) ?_ ?_
        · clear k1_b2_0 g1_b2_0 k1_b2_1 g1_b2_1 k1_b2_2 g1_b2_2 k1_b2_3 g1_b2_3 k1_b3_0 g1_b3_0 k1_b3_1 g1_b3_1 k1_b3_2 g1_b3_2 k1_b3_3 g1_b3_3 B1 z1; intro f hf; have u2 : f 2 = (.pointer (some ⟨w.heap.size, 0, none⟩)) := (by rw [← hf]; rfl); clear hf; rintro w' ⟨h0, h1, h2, h3, h4, h5, h6, h7, h8, h9, h10, h11, h12, h13, h14, h15⟩; go_simp; try exact IntWalk.i64_in _ (by omega)
        refine obe_val (by rfl) ?_ ?_
        · clear k1_b2_0 g1_b2_0 k1_b2_1 g1_b2_1 k1_b2_2 g1_b2_2 k1_b2_3 g1_b2_3 k1_b3_0 g1_b3_0 k1_b3_1 g1_b3_1 k1_b3_2 g1_b3_2 k1_b3_3 g1_b3_3 B1 z1; intro f hf; have u3 : f 3 = (.pointer (some ⟨w.heap.size + 1, 0, none⟩)) := (by rw [← hf]; rfl); clear hf; rintro w' ⟨h0, h1, h2, h3, h4, h5, h6, h7, h8, h9, h10, h11, h12, h13, h14, h15⟩; go_simp; try exact IntWalk.i64_in _ (by omega)
        refine obe_call (by rfl) ?_ ?_ ?_
        · clear k1_b2_0 g1_b2_0 k1_b2_1 g1_b2_1 k1_b2_2 g1_b2_2 k1_b2_3 g1_b2_3 k1_b3_0 g1_b3_0 k1_b3_1 g1_b3_1 k1_b3_2 g1_b3_2 k1_b3_3 g1_b3_3 B1 z1; intro f hf; have u5 : f 5 = (.agg #[.int .i64 a, .int .i64 b, .int .i64 c, .int .i64 d]) := (by rw [← hf]; rfl); have u6 : f 6 = (.agg #[.int .i64 s, .int .i64 t, .int .i64 u, .int .i64 v]) := (by rw [← hf]; rfl); clear hf; intro w' _; simp only [execOp, resolve, invoke, rhoF_tmp, rhoF_func, rhoF_const, u5, u6, List.map_toArray, List.map_cons, List.map_nil]; go_simp
        · clear k1_b2_0 g1_b2_0 k1_b2_1 g1_b2_1 k1_b2_2 g1_b2_2 k1_b2_3 g1_b2_3 k1_b3_0 g1_b3_0 k1_b3_1 g1_b3_1 k1_b3_2 g1_b3_2 k1_b3_3 g1_b3_3 B1 z1; rintro w' ⟨h0, h1, h2, h3, h4, h5, h6, h7, h8, h9, h10, h11, h12, h13, h14, h15⟩; exact c2 _
        refine obe_val (by rfl) ?_ ?_
        · clear k1_b2_0 g1_b2_0 k1_b2_1 g1_b2_1 k1_b2_2 g1_b2_2 k1_b2_3 g1_b2_3 k1_b3_0 g1_b3_0 k1_b3_1 g1_b3_1 k1_b3_2 g1_b3_2 k1_b3_3 g1_b3_3 B1 z1; intro f hf; have u2 : f 2 = (.pointer (some ⟨w.heap.size, 0, none⟩)) := (by rw [← hf]; rfl); clear hf; rintro w' ⟨h0, h1, h2, h3, h4, h5, h6, h7, h8, h9, h10, h11, h12, h13, h14, h15⟩; go_simp; try exact IntWalk.i64_in _ (by omega)
        refine obe_call (by rfl) ?_ ?_ ?_
        · clear k1_b2_0 g1_b2_0 k1_b2_1 g1_b2_1 k1_b2_2 g1_b2_2 k1_b2_3 g1_b2_3 k1_b3_0 g1_b3_0 k1_b3_1 g1_b3_1 k1_b3_2 g1_b3_2 k1_b3_3 g1_b3_3 B1 z1; intro f hf; have u8 : f 8 = (.agg #[.int .i64 a, .int .i64 b, .int .i64 c, .int .i64 d]) := (by rw [← hf]; rfl); clear hf; intro w' _; simp only [execOp, resolve, invoke, rhoF_tmp, rhoF_func, rhoF_const, u8, List.map_toArray, List.map_cons, List.map_nil]; go_simp
        · clear k1_b2_0 g1_b2_0 k1_b2_1 g1_b2_1 k1_b2_2 g1_b2_2 k1_b2_3 g1_b2_3 k1_b3_0 g1_b3_0 k1_b3_1 g1_b3_1 k1_b3_2 g1_b3_2 k1_b3_3 g1_b3_3 B1 z1; rintro w' ⟨h0, h1, h2, h3, h4, h5, h6, h7, h8, h9, h10, h11, h12, h13, h14, h15⟩; exact c1 _
        refine obe_val (by rfl) ?_ ?_
        · clear k1_b2_0 g1_b2_0 k1_b2_1 g1_b2_1 k1_b2_2 g1_b2_2 k1_b2_3 g1_b2_3 k1_b3_0 g1_b3_0 k1_b3_1 g1_b3_1 k1_b3_2 g1_b3_2 k1_b3_3 g1_b3_3 B1 z1; intro f hf; have u7 : f 7 = (.agg #[.int .i64 M0, .int .i64 M1, .int .i64 M2, .int .i64 M3]) := (by rw [← hf]; rfl); have u9 : f 9 = (.agg #[.int .i64 a, .int .i64 b, .int .i64 c, .int .i64 d]) := (by rw [← hf]; rfl); clear hf; rintro w' ⟨h0, h1, h2, h3, h4, h5, h6, h7, h8, h9, h10, h11, h12, h13, h14, h15⟩; go_simp; try exact IntWalk.i64_in _ (by omega)
        refine obe_val (by rfl) ?_ ?_
        · clear k1_b2_0 g1_b2_0 k1_b2_1 g1_b2_1 k1_b2_2 g1_b2_2 k1_b2_3 g1_b2_3 k1_b3_0 g1_b3_0 k1_b3_1 g1_b3_1 k1_b3_2 g1_b3_2 k1_b3_3 g1_b3_3 B1 z1; intro f hf; have u10 : f 10 = (.bool false) := (by rw [← hf]; rfl); clear hf; rintro w' ⟨h0, h1, h2, h3, h4, h5, h6, h7, h8, h9, h10, h11, h12, h13, h14, h15⟩; go_simp; try exact IntWalk.i64_in _ (by omega)
        refine obe_nil ?_
        rintro w2 ⟨h0, h1, h2, h3, h4, h5, h6, h7, h8, h9, h10, h11, h12, h13, h14, h15⟩ hb2 hF
        (try simp only [List.nil_append, List.append_nil, List.cons_append] at hF)
        simp only [puts, putD, Act.put, List.setIfInBounds_toArray, List.set_cons_zero, List.set_cons_succ]
        clear hF
        have k2_b2_0 := bcs hb2 k1_b2_0
        have g2_b2_0 := bfs hb2 k1_b2_0 g1_b2_0
        have k2_b2_1 := bcs hb2 k1_b2_1
        have g2_b2_1 := bfs hb2 k1_b2_1 g1_b2_1
        have k2_b2_2 := bcs hb2 k1_b2_2
        have g2_b2_2 := bfs hb2 k1_b2_2 g1_b2_2
        have k2_b2_3 := bcs hb2 k1_b2_3
        have g2_b2_3 := bfs hb2 k1_b2_3 g1_b2_3
        have k2_b3_0 := bcs hb2 k1_b3_0
        have g2_b3_0 := bfs hb2 k1_b3_0 g1_b3_0
        have k2_b3_1 := bcs hb2 k1_b3_1
        have g2_b3_1 := bfs hb2 k1_b3_1 g1_b3_1
        have k2_b3_2 := bcs hb2 k1_b3_2
        have g2_b3_2 := bfs hb2 k1_b3_2 g1_b3_2
        have k2_b3_3 := bcs hb2 k1_b3_3
        have g2_b3_3 := bfs hb2 k1_b3_3 g1_b3_3
        clear h0 h1 h2 h3 h4 h5 h6 h7 h8 h9 h10 h11 h12 h13 h14 h15
        have B2 := bel_step B1 hb2
        have z2 := Nat.le_trans z1 hb2.size
        clear hb2
        (try clear B1)
        (try clear z1)
        (try clear k1_b2_0)
        (try clear g1_b2_0)
        (try clear k1_b2_1)
        (try clear g1_b2_1)
        (try clear k1_b2_2)
        (try clear g1_b2_2)
        (try clear k1_b2_3)
        (try clear g1_b2_3)
        (try clear k1_b3_0)
        (try clear g1_b3_0)
        (try clear k1_b3_1)
        (try clear g1_b3_1)
        (try clear k1_b3_2)
        (try clear g1_b3_2)
        (try clear k1_b3_3)
        (try clear g1_b3_3)
        (try clear q1_b2)
        (try clear x1_b2)
        (try clear y1_b2)
        (try clear q1_b3)
        (try clear x1_b3)
        (try clear y1_b3)
        have q2_b2 : w.heap.size < w2.heap.size := qlt k2_b2_0
        have x2_b2 : ¬ w.heap.size = w2.heap.size := qne k2_b2_0
        have y2_b2 : ¬ w2.heap.size = w.heap.size := fun h => qne k2_b2_0 h.symm
        have q2_b3 : w.heap.size + 1 < w2.heap.size := qlt k2_b3_0
        have x2_b3 : ¬ w.heap.size + 1 = w2.heap.size := qne k2_b3_0
        have y2_b3 : ¬ w2.heap.size = w.heap.size + 1 := fun h => qne k2_b3_0 h.symm
        unfold wpList
        go_wp2
        go_ret
        refine ⟨rfl, ?_⟩
        repeat (first | with_reducible exact Below.refl _ _ | with_reducible exact B2 | with_reducible apply below_drewN | with_reducible apply Below.drew | (with_reducible refine Below.alloc ?_ (by first | (simp; done) | (simp; omega) | omega) _) | (with_reducible refine Below.setCell ?_ (by first | (simp; done) | (simp; omega) | omega) _))
      by_cases z2 : M2 = c
      case neg =>
        have n0 : (M0 == a) = true := by simpa using z0
        have n1 : (M1 == b) = true := by simpa using z1
        have n2 : (M2 == c) = false := by simpa using z2
        clear hn z0 z1 z2
        go_enter Try.func25, Try.ntmps25
        go_wp2
        refine wp_region_env (fun w' => w'.cell? ⟨w.heap.size, 0, none⟩ = some (.int .i64 a) ∧ w'.frozen? ⟨w.heap.size, 0, none⟩ = false ∧ w'.cell? ⟨w.heap.size, 1, none⟩ = some (.int .i64 b) ∧ w'.frozen? ⟨w.heap.size, 1, none⟩ = false ∧ w'.cell? ⟨w.heap.size, 2, none⟩ = some (.int .i64 c) ∧ w'.frozen? ⟨w.heap.size, 2, none⟩ = false ∧ w'.cell? ⟨w.heap.size, 3, none⟩ = some (.int .i64 d) ∧ w'.frozen? ⟨w.heap.size, 3, none⟩ = false ∧ w'.cell? ⟨w.heap.size + 1, 0, none⟩ = some (.int .i64 s) ∧ w'.frozen? ⟨w.heap.size + 1, 0, none⟩ = false ∧ w'.cell? ⟨w.heap.size + 1, 1, none⟩ = some (.int .i64 t) ∧ w'.frozen? ⟨w.heap.size + 1, 1, none⟩ = false ∧ w'.cell? ⟨w.heap.size + 1, 2, none⟩ = some (.int .i64 u) ∧ w'.frozen? ⟨w.heap.size + 1, 2, none⟩ = false ∧ w'.cell? ⟨w.heap.size + 1, 3, none⟩ = some (.int .i64 v) ∧ w'.frozen? ⟨w.heap.size + 1, 3, none⟩ = false) (fun W => W.cell? ⟨w.heap.size, 0, none⟩ = some (.int .i64 a) ∧ W.frozen? ⟨w.heap.size, 0, none⟩ = false ∧ W.cell? ⟨w.heap.size, 1, none⟩ = some (.int .i64 b) ∧ W.frozen? ⟨w.heap.size, 1, none⟩ = false ∧ W.cell? ⟨w.heap.size, 2, none⟩ = some (.int .i64 c) ∧ W.frozen? ⟨w.heap.size, 2, none⟩ = false ∧ W.cell? ⟨w.heap.size, 3, none⟩ = some (.int .i64 d) ∧ W.frozen? ⟨w.heap.size, 3, none⟩ = false ∧ W.cell? ⟨w.heap.size + 1, 0, none⟩ = some (.int .i64 s) ∧ W.frozen? ⟨w.heap.size + 1, 0, none⟩ = false ∧ W.cell? ⟨w.heap.size + 1, 1, none⟩ = some (.int .i64 t) ∧ W.frozen? ⟨w.heap.size + 1, 1, none⟩ = false ∧ W.cell? ⟨w.heap.size + 1, 2, none⟩ = some (.int .i64 u) ∧ W.frozen? ⟨w.heap.size + 1, 2, none⟩ = false ∧ W.cell? ⟨w.heap.size + 1, 3, none⟩ = some (.int .i64 v) ∧ W.frozen? ⟨w.heap.size + 1, 3, none⟩ = false ∧ Below w.heap.size w W ∧ w.heap.size + 1 + 1 ≤ W.heap.size) 7 11 [.val (.agg #[.int .i64 a, .int .i64 b, .int .i64 c, .int .i64 d]), .val (.agg #[.int .i64 s, .int .i64 t, .int .i64 u, .int .i64 v]), .call 17 #[.agg #[.int .i64 a, .int .i64 b, .int .i64 c, .int .i64 d], .agg #[.int .i64 s, .int .i64 t, .int .i64 u, .int .i64 v]] (.agg #[.int .i64 M0, .int .i64 M1, .int .i64 M2, .int .i64 M3]), .val (.agg #[.int .i64 a, .int .i64 b, .int .i64 c, .int .i64 d]), .call 26 #[.agg #[.int .i64 a, .int .i64 b, .int .i64 c, .int .i64 d]] (.agg #[.int .i64 a, .int .i64 b, .int .i64 c, .int .i64 d]), .val (.bool false), .val (.bool false)] (by kernel_rfl) (by kernel_rfl) rfl (by kernel_rfl) (by rintro w1 w2 ⟨h0, h1, h2, h3, h4, h5, h6, h7, h8, h9, h10, h11, h12, h13, h14, h15⟩ hb; exact ⟨bcs hb h0, bfs hb h0 h1, bcs hb h2, bfs hb h2 h3, bcs hb h4, bfs hb h4 h5, bcs hb h6, bfs hb h6 h7, bcs hb h8, bfs hb h8 h9, bcs hb h10, bfs hb h10 h11, bcs hb h12, bfs hb h12 h13, bcs hb h14, bfs hb h14 h15⟩) ⟨by first | with_reducible assumption | go_simp, by first | with_reducible assumption | go_simp, by first | with_reducible assumption | go_simp, by first | with_reducible assumption | go_simp, by first | with_reducible assumption | go_simp, by first | with_reducible assumption | go_simp, by first | with_reducible assumption | go_simp, by first | with_reducible assumption | go_simp, by first | with_reducible assumption | go_simp, by first | with_reducible assumption | go_simp, by first | with_reducible assumption | go_simp, by first | with_reducible assumption | go_simp, by first | with_reducible assumption | go_simp, by first | with_reducible assumption | go_simp, by first | with_reducible assumption | go_simp, by first | with_reducible assumption | go_simp, by repeat (first | with_reducible exact Below.refl _ _ | fail | with_reducible apply below_drewN | with_reducible apply Below.drew | (with_reducible refine Below.alloc ?_ (by first | (simp; done) | (simp; omega) | omega) _) | (with_reducible refine Below.setCell ?_ (by first | (simp; done) | (simp; omega) | omega) _)), by first | with_reducible assumption | (simp; done) | (simp; omega)⟩ ?_ ?_
        · rintro W ⟨k1_b2_0, g1_b2_0, k1_b2_1, g1_b2_1, k1_b2_2, g1_b2_2, k1_b2_3, g1_b2_3, k1_b3_0, g1_b3_0, k1_b3_1, g1_b3_1, k1_b3_2, g1_b3_2, k1_b3_3, g1_b3_3, B1, z1⟩; exact ⟨k1_b2_0, g1_b2_0, k1_b2_1, g1_b2_1, k1_b2_2, g1_b2_2, k1_b2_3, g1_b2_3, k1_b3_0, g1_b3_0, k1_b3_1, g1_b3_1, k1_b3_2, g1_b3_2, k1_b3_3, g1_b3_3⟩
        rintro w1 ⟨k1_b2_0, g1_b2_0, k1_b2_1, g1_b2_1, k1_b2_2, g1_b2_2, k1_b2_3, g1_b2_3, k1_b3_0, g1_b3_0, k1_b3_1, g1_b3_1, k1_b3_2, g1_b3_2, k1_b3_3, g1_b3_3, B1, z1⟩ gg
        simp only [List.take_succ_cons, List.take_zero, List.drop_succ_cons, List.drop_zero, List.cons_append, List.nil_append, List.append_nil]
        refine obe_val (by rfl) ?_ ?_
        · clear k1_b2_0 g1_b2_0 k1_b2_1 g1_b2_1 k1_b2_2 g1_b2_2 k1_b2_3 g1_b2_3 k1_b3_0 g1_b3_0 k1_b3_1 g1_b3_1 k1_b3_2 g1_b3_2 k1_b3_3 g1_b3_3 B1 z1; intro f hf; have u2 : f 2 = (.pointer (some ⟨w.heap.size, 0, none⟩)) := (by rw [← hf]; rfl); clear hf; rintro w' ⟨h0, h1, h2, h3, h4, h5, h6, h7, h8, h9, h10, h11, h12, h13, h14, h15⟩; go_simp; try exact IntWalk.i64_in _ (by omega)
        refine obe_val (by rfl) ?_ ?_
        · clear k1_b2_0 g1_b2_0 k1_b2_1 g1_b2_1 k1_b2_2 g1_b2_2 k1_b2_3 g1_b2_3 k1_b3_0 g1_b3_0 k1_b3_1 g1_b3_1 k1_b3_2 g1_b3_2 k1_b3_3 g1_b3_3 B1 z1; intro f hf; have u3 : f 3 = (.pointer (some ⟨w.heap.size + 1, 0, none⟩)) := (by rw [← hf]; rfl); clear hf; rintro w' ⟨h0, h1, h2, h3, h4, h5, h6, h7, h8, h9, h10, h11, h12, h13, h14, h15⟩; go_simp; try exact IntWalk.i64_in _ (by omega)
        refine obe_call (by rfl) ?_ ?_ ?_
        · clear k1_b2_0 g1_b2_0 k1_b2_1 g1_b2_1 k1_b2_2 g1_b2_2 k1_b2_3 g1_b2_3 k1_b3_0 g1_b3_0 k1_b3_1 g1_b3_1 k1_b3_2 g1_b3_2 k1_b3_3 g1_b3_3 B1 z1; intro f hf; have u5 : f 5 = (.agg #[.int .i64 a, .int .i64 b, .int .i64 c, .int .i64 d]) := (by rw [← hf]; rfl); have u6 : f 6 = (.agg #[.int .i64 s, .int .i64 t, .int .i64 u, .int .i64 v]) := (by rw [← hf]; rfl); clear hf; intro w' _; simp only [execOp, resolve, invoke, rhoF_tmp, rhoF_func, rhoF_const, u5, u6, List.map_toArray, List.map_cons, List.map_nil]; go_simp
        · clear k1_b2_0 g1_b2_0 k1_b2_1 g1_b2_1 k1_b2_2 g1_b2_2 k1_b2_3 g1_b2_3 k1_b3_0 g1_b3_0 k1_b3_1 g1_b3_1 k1_b3_2 g1_b3_2 k1_b3_3 g1_b3_3 B1 z1; rintro w' ⟨h0, h1, h2, h3, h4, h5, h6, h7, h8, h9, h10, h11, h12, h13, h14, h15⟩; exact c2 _
        refine obe_val (by rfl) ?_ ?_
        · clear k1_b2_0 g1_b2_0 k1_b2_1 g1_b2_1 k1_b2_2 g1_b2_2 k1_b2_3 g1_b2_3 k1_b3_0 g1_b3_0 k1_b3_1 g1_b3_1 k1_b3_2 g1_b3_2 k1_b3_3 g1_b3_3 B1 z1; intro f hf; have u2 : f 2 = (.pointer (some ⟨w.heap.size, 0, none⟩)) := (by rw [← hf]; rfl); clear hf; rintro w' ⟨h0, h1, h2, h3, h4, h5, h6, h7, h8, h9, h10, h11, h12, h13, h14, h15⟩; go_simp; try exact IntWalk.i64_in _ (by omega)
        refine obe_call (by rfl) ?_ ?_ ?_
        · clear k1_b2_0 g1_b2_0 k1_b2_1 g1_b2_1 k1_b2_2 g1_b2_2 k1_b2_3 g1_b2_3 k1_b3_0 g1_b3_0 k1_b3_1 g1_b3_1 k1_b3_2 g1_b3_2 k1_b3_3 g1_b3_3 B1 z1; intro f hf; have u8 : f 8 = (.agg #[.int .i64 a, .int .i64 b, .int .i64 c, .int .i64 d]) := (by rw [← hf]; rfl); clear hf; intro w' _; simp only [execOp, resolve, invoke, rhoF_tmp, rhoF_func, rhoF_const, u8, List.map_toArray, List.map_cons, List.map_nil]; go_simp
        · clear k1_b2_0 g1_b2_0 k1_b2_1 g1_b2_1 k1_b2_2 g1_b2_2 k1_b2_3 g1_b2_3 k1_b3_0 g1_b3_0 k1_b3_1 g1_b3_1 k1_b3_2 g1_b3_2 k1_b3_3 g1_b3_3 B1 z1; rintro w' ⟨h0, h1, h2, h3, h4, h5, h6, h7, h8, h9, h10, h11, h12, h13, h14, h15⟩; exact c1 _
        refine obe_val (by rfl) ?_ ?_
        · clear k1_b2_0 g1_b2_0 k1_b2_1 g1_b2_1 k1_b2_2 g1_b2_2 k1_b2_3 g1_b2_3 k1_b3_0 g1_b3_0 k1_b3_1 g1_b3_1 k1_b3_2 g1_b3_2 k1_b3_3 g1_b3_3 B1 z1; intro f hf; have u7 : f 7 = (.agg #[.int .i64 M0, .int .i64 M1, .int .i64 M2, .int .i64 M3]) := (by rw [← hf]; rfl); have u9 : f 9 = (.agg #[.int .i64 a, .int .i64 b, .int .i64 c, .int .i64 d]) := (by rw [← hf]; rfl); clear hf; rintro w' ⟨h0, h1, h2, h3, h4, h5, h6, h7, h8, h9, h10, h11, h12, h13, h14, h15⟩; go_simp; try exact IntWalk.i64_in _ (by omega)
        refine obe_val (by rfl) ?_ ?_
        · clear k1_b2_0 g1_b2_0 k1_b2_1 g1_b2_1 k1_b2_2 g1_b2_2 k1_b2_3 g1_b2_3 k1_b3_0 g1_b3_0 k1_b3_1 g1_b3_1 k1_b3_2 g1_b3_2 k1_b3_3 g1_b3_3 B1 z1; intro f hf; have u10 : f 10 = (.bool false) := (by rw [← hf]; rfl); clear hf; rintro w' ⟨h0, h1, h2, h3, h4, h5, h6, h7, h8, h9, h10, h11, h12, h13, h14, h15⟩; go_simp; try exact IntWalk.i64_in _ (by omega)
        refine obe_nil ?_
        rintro w2 ⟨h0, h1, h2, h3, h4, h5, h6, h7, h8, h9, h10, h11, h12, h13, h14, h15⟩ hb2 hF
        (try simp only [List.nil_append, List.append_nil, List.cons_append] at hF)
        simp only [puts, putD, Act.put, List.setIfInBounds_toArray, List.set_cons_zero, List.set_cons_succ]
        clear hF
        have k2_b2_0 := bcs hb2 k1_b2_0
        have g2_b2_0 := bfs hb2 k1_b2_0 g1_b2_0
        have k2_b2_1 := bcs hb2 k1_b2_1
        have g2_b2_1 := bfs hb2 k1_b2_1 g1_b2_1
        have k2_b2_2 := bcs hb2 k1_b2_2
        have g2_b2_2 := bfs hb2 k1_b2_2 g1_b2_2
        have k2_b2_3 := bcs hb2 k1_b2_3
        have g2_b2_3 := bfs hb2 k1_b2_3 g1_b2_3
        have k2_b3_0 := bcs hb2 k1_b3_0
        have g2_b3_0 := bfs hb2 k1_b3_0 g1_b3_0
        have k2_b3_1 := bcs hb2 k1_b3_1
        have g2_b3_1 := bfs hb2 k1_b3_1 g1_b3_1
        have k2_b3_2 := bcs hb2 k1_b3_2
        have g2_b3_2 := bfs hb2 k1_b3_2 g1_b3_2
        have k2_b3_3 := bcs hb2 k1_b3_3
        have g2_b3_3 := bfs hb2 k1_b3_3 g1_b3_3
        clear h0 h1 h2 h3 h4 h5 h6 h7 h8 h9 h10 h11 h12 h13 h14 h15
        have B2 := bel_step B1 hb2
        have z2 := Nat.le_trans z1 hb2.size
        clear hb2
        (try clear B1)
        (try clear z1)
        (try clear k1_b2_0)
        (try clear g1_b2_0)
        (try clear k1_b2_1)
        (try clear g1_b2_1)
        (try clear k1_b2_2)
        (try clear g1_b2_2)
        (try clear k1_b2_3)
        (try clear g1_b2_3)
        (try clear k1_b3_0)
        (try clear g1_b3_0)
        (try clear k1_b3_1)
        (try clear g1_b3_1)
        (try clear k1_b3_2)
        (try clear g1_b3_2)
        (try clear k1_b3_3)
        (try clear g1_b3_3)
        (try clear q1_b2)
        (try clear x1_b2)
        (try clear y1_b2)
        (try clear q1_b3)
        (try clear x1_b3)
        (try clear y1_b3)
        have q2_b2 : w.heap.size < w2.heap.size := qlt k2_b2_0
        have x2_b2 : ¬ w.heap.size = w2.heap.size := qne k2_b2_0
        have y2_b2 : ¬ w2.heap.size = w.heap.size := fun h => qne k2_b2_0 h.symm
        have q2_b3 : w.heap.size + 1 < w2.heap.size := qlt k2_b3_0
        have x2_b3 : ¬ w.heap.size + 1 = w2.heap.size := qne k2_b3_0
        have y2_b3 : ¬ w2.heap.size = w.heap.size + 1 := fun h => qne k2_b3_0 h.symm
        unfold wpList
        go_wp2
        go_ret
        refine ⟨rfl, ?_⟩
        repeat (first | with_reducible exact Below.refl _ _ | with_reducible exact B2 | with_reducible apply below_drewN | with_reducible apply Below.drew | (with_reducible refine Below.alloc ?_ (by first | (simp; done) | (simp; omega) | omega) _) | (with_reducible refine Below.setCell ?_ (by first | (simp; done) | (simp; omega) | omega) _))
      have z3 : ¬ M3 = d := fun h => hn ⟨z0, z1, z2, h⟩
      have n0 : (M0 == a) = true := by simpa using z0
      have n1 : (M1 == b) = true := by simpa using z1
      have n2 : (M2 == c) = true := by simpa using z2
      have n3 : (M3 == d) = false := by simpa using z3
      clear hn z0 z1 z2 z3
      go_enter Try.func25, Try.ntmps25
      go_wp2
      refine wp_region_env (fun w' => w'.cell? ⟨w.heap.size, 0, none⟩ = some (.int .i64 a) ∧ w'.frozen? ⟨w.heap.size, 0, none⟩ = false ∧ w'.cell? ⟨w.heap.size, 1, none⟩ = some (.int .i64 b) ∧ w'.frozen? ⟨w.heap.size, 1, none⟩ = false ∧ w'.cell? ⟨w.heap.size, 2, none⟩ = some (.int .i64 c) ∧ w'.frozen? ⟨w.heap.size, 2, none⟩ = false ∧ w'.cell? ⟨w.heap.size, 3, none⟩ = some (.int .i64 d) ∧ w'.frozen? ⟨w.heap.size, 3, none⟩ = false ∧ w'.cell? ⟨w.heap.size + 1, 0, none⟩ = some (.int .i64 s) ∧ w'.frozen? ⟨w.heap.size + 1, 0, none⟩ = false ∧ w'.cell? ⟨w.heap.size + 1, 1, none⟩ = some (.int .i64 t) ∧ w'.frozen? ⟨w.heap.size + 1, 1, none⟩ = false ∧ w'.cell? ⟨w.heap.size + 1, 2, none⟩ = some (.int .i64 u) ∧ w'.frozen? ⟨w.heap.size + 1, 2, none⟩ = false ∧ w'.cell? ⟨w.heap.size + 1, 3, none⟩ = some (.int .i64 v) ∧ w'.frozen? ⟨w.heap.size + 1, 3, none⟩ = false) (fun W => W.cell? ⟨w.heap.size, 0, none⟩ = some (.int .i64 a) ∧ W.frozen? ⟨w.heap.size, 0, none⟩ = false ∧ W.cell? ⟨w.heap.size, 1, none⟩ = some (.int .i64 b) ∧ W.frozen? ⟨w.heap.size, 1, none⟩ = false ∧ W.cell? ⟨w.heap.size, 2, none⟩ = some (.int .i64 c) ∧ W.frozen? ⟨w.heap.size, 2, none⟩ = false ∧ W.cell? ⟨w.heap.size, 3, none⟩ = some (.int .i64 d) ∧ W.frozen? ⟨w.heap.size, 3, none⟩ = false ∧ W.cell? ⟨w.heap.size + 1, 0, none⟩ = some (.int .i64 s) ∧ W.frozen? ⟨w.heap.size + 1, 0, none⟩ = false ∧ W.cell? ⟨w.heap.size + 1, 1, none⟩ = some (.int .i64 t) ∧ W.frozen? ⟨w.heap.size + 1, 1, none⟩ = false ∧ W.cell? ⟨w.heap.size + 1, 2, none⟩ = some (.int .i64 u) ∧ W.frozen? ⟨w.heap.size + 1, 2, none⟩ = false ∧ W.cell? ⟨w.heap.size + 1, 3, none⟩ = some (.int .i64 v) ∧ W.frozen? ⟨w.heap.size + 1, 3, none⟩ = false ∧ Below w.heap.size w W ∧ w.heap.size + 1 + 1 ≤ W.heap.size) 7 11 [.val (.agg #[.int .i64 a, .int .i64 b, .int .i64 c, .int .i64 d]), .val (.agg #[.int .i64 s, .int .i64 t, .int .i64 u, .int .i64 v]), .call 17 #[.agg #[.int .i64 a, .int .i64 b, .int .i64 c, .int .i64 d], .agg #[.int .i64 s, .int .i64 t, .int .i64 u, .int .i64 v]] (.agg #[.int .i64 M0, .int .i64 M1, .int .i64 M2, .int .i64 M3]), .val (.agg #[.int .i64 a, .int .i64 b, .int .i64 c, .int .i64 d]), .call 26 #[.agg #[.int .i64 a, .int .i64 b, .int .i64 c, .int .i64 d]] (.agg #[.int .i64 a, .int .i64 b, .int .i64 c, .int .i64 d]), .val (.bool false), .val (.bool false)] (by kernel_rfl) (by kernel_rfl) rfl (by kernel_rfl) (by rintro w1 w2 ⟨h0, h1, h2, h3, h4, h5, h6, h7, h8, h9, h10, h11, h12, h13, h14, h15⟩ hb; exact ⟨bcs hb h0, bfs hb h0 h1, bcs hb h2, bfs hb h2 h3, bcs hb h4, bfs hb h4 h5, bcs hb h6, bfs hb h6 h7, bcs hb h8, bfs hb h8 h9, bcs hb h10, bfs hb h10 h11, bcs hb h12, bfs hb h12 h13, bcs hb h14, bfs hb h14 h15⟩) ⟨by first | with_reducible assumption | go_simp, by first | with_reducible assumption | go_simp, by first | with_reducible assumption | go_simp, by first | with_reducible assumption | go_simp, by first | with_reducible assumption | go_simp, by first | with_reducible assumption | go_simp, by first | with_reducible assumption | go_simp, by first | with_reducible assumption | go_simp, by first | with_reducible assumption | go_simp, by first | with_reducible assumption | go_simp, by first | with_reducible assumption | go_simp, by first | with_reducible assumption | go_simp, by first | with_reducible assumption | go_simp, by first | with_reducible assumption | go_simp, by first | with_reducible assumption | go_simp, by first | with_reducible assumption | go_simp, by repeat (first | with_reducible exact Below.refl _ _ | fail | with_reducible apply below_drewN | with_reducible apply Below.drew | (with_reducible refine Below.alloc ?_ (by first | (simp; done) | (simp; omega) | omega) _) | (with_reducible refine Below.setCell ?_ (by first | (simp; done) | (simp; omega) | omega) _)), by first | with_reducible assumption | (simp; done) | (simp; omega)⟩ ?_ ?_
      · rintro W ⟨k1_b2_0, g1_b2_0, k1_b2_1, g1_b2_1, k1_b2_2, g1_b2_2, k1_b2_3, g1_b2_3, k1_b3_0, g1_b3_0, k1_b3_1, g1_b3_1, k1_b3_2, g1_b3_2, k1_b3_3, g1_b3_3, B1, z1⟩; exact ⟨k1_b2_0, g1_b2_0, k1_b2_1, g1_b2_1, k1_b2_2, g1_b2_2, k1_b2_3, g1_b2_3, k1_b3_0, g1_b3_0, k1_b3_1, g1_b3_1, k1_b3_2, g1_b3_2, k1_b3_3, g1_b3_3⟩
      rintro w1 ⟨k1_b2_0, g1_b2_0, k1_b2_1, g1_b2_1, k1_b2_2, g1_b2_2, k1_b2_3, g1_b2_3, k1_b3_0, g1_b3_0, k1_b3_1, g1_b3_1, k1_b3_2, g1_b3_2, k1_b3_3, g1_b3_3, B1, z1⟩ gg
      simp only [List.take_succ_cons, List.take_zero, List.drop_succ_cons, List.drop_zero, List.cons_append, List.nil_append, List.append_nil]
      refine obe_val (by rfl) ?_ ?_
      · clear k1_b2_0 g1_b2_0 k1_b2_1 g1_b2_1 k1_b2_2 g1_b2_2 k1_b2_3 g1_b2_3 k1_b3_0 g1_b3_0 k1_b3_1 g1_b3_1 k1_b3_2 g1_b3_2 k1_b3_3 g1_b3_3 B1 z1; intro f hf; have u2 : f 2 = (.pointer (some ⟨w.heap.size, 0, none⟩)) := (by rw [← hf]; rfl); clear hf; rintro w' ⟨h0, h1, h2, h3, h4, h5, h6, h7, h8, h9, h10, h11, h12, h13, h14, h15⟩; go_simp; try exact IntWalk.i64_in _ (by omega)
      refine obe_val (by rfl) ?_ ?_
      · clear k1_b2_0 g1_b2_0 k1_b2_1 g1_b2_1 k1_b2_2 g1_b2_2 k1_b2_3 g1_b2_3 k1_b3_0 g1_b3_0 k1_b3_1 g1_b3_1 k1_b3_2 g1_b3_2 k1_b3_3 g1_b3_3 B1 z1; intro f hf; have u3 : f 3 = (.pointer (some ⟨w.heap.size + 1, 0, none⟩)) := (by rw [← hf]; rfl); clear hf; rintro w' ⟨h0, h1, h2, h3, h4, h5, h6, h7, h8, h9, h10, h11, h12, h13, h14, h15⟩; go_simp; try exact IntWalk.i64_in _ (by omega)
      refine obe_call (by rfl) ?_ ?_ ?_
      · clear k1_b2_0 g1_b2_0 k1_b2_1 g1_b2_1 k1_b2_2 g1_b2_2 k1_b2_3 g1_b2_3 k1_b3_0 g1_b3_0 k1_b3_1 g1_b3_1 k1_b3_2 g1_b3_2 k1_b3_3 g1_b3_3 B1 z1; intro f hf; have u5 : f 5 = (.agg #[.int .i64 a, .int .i64 b, .int .i64 c, .int .i64 d]) := (by rw [← hf]; rfl); have u6 : f 6 = (.agg #[.int .i64 s, .int .i64 t, .int .i64 u, .int .i64 v]) := (by rw [← hf]; rfl); clear hf; intro w' _; simp only [execOp, resolve, invoke, rhoF_tmp, rhoF_func, rhoF_const, u5, u6, List.map_toArray, List.map_cons, List.map_nil]; go_simp
      · clear k1_b2_0 g1_b2_0 k1_b2_1 g1_b2_1 k1_b2_2 g1_b2_2 k1_b2_3 g1_b2_3 k1_b3_0 g1_b3_0 k1_b3_1 g1_b3_1 k1_b3_2 g1_b3_2 k1_b3_3 g1_b3_3 B1 z1; rintro w' ⟨h0, h1, h2, h3, h4, h5, h6, h7, h8, h9, h10, h11, h12, h13, h14, h15⟩; exact c2 _
      refine obe_val (by rfl) ?_ ?_
      · clear k1_b2_0 g1_b2_0 k1_b2_1 g1_b2_1 k1_b2_2 g1_b2_2 k1_b2_3 g1_b2_3 k1_b3_0 g1_b3_0 k1_b3_1 g1_b3_1 k1_b3_2 g1_b3_2 k1_b3_3 g1_b3_3 B1 z1; intro f hf; have u2 : f 2 = (.pointer (some ⟨w.heap.size, 0, none⟩)) := (by rw [← hf]; rfl); clear hf; rintro w' ⟨h0, h1, h2, h3, h4, h5, h6, h7, h8, h9, h10, h11, h12, h13, h14, h15⟩; go_simp; try exact IntWalk.i64_in _ (by omega)
      refine obe_call (by rfl) ?_ ?_ ?_
      · clear k1_b2_0 g1_b2_0 k1_b2_1 g1_b2_1 k1_b2_2 g1_b2_2 k1_b2_3 g1_b2_3 k1_b3_0 g1_b3_0 k1_b3_1 g1_b3_1 k1_b3_2 g1_b3_2 k1_b3_3 g1_b3_3 B1 z1; intro f hf; have u8 : f 8 = (.agg #[.int .i64 a, .int .i64 b, .int .i64 c, .int .i64 d]) := (by rw [← hf]; rfl); clear hf; intro w' _; simp only [execOp, resolve, invoke, rhoF_tmp, rhoF_func, rhoF_const, u8, List.map_toArray, List.map_cons, List.map_nil]; go_simp
      · clear k1_b2_0 g1_b2_0 k1_b2_1 g1_b2_1 k1_b2_2 g1_b2_2 k1_b2_3 g1_b2_3 k1_b3_0 g1_b3_0 k1_b3_1 g1_b3_1 k1_b3_2 g1_b3_2 k1_b3_3 g1_b3_3 B1 z1; rintro w' ⟨h0, h1, h2, h3, h4, h5, h6, h7, h8, h9, h10, h11, h12, h13, h14, h15⟩; exact c1 _
      refine obe_val (by rfl) ?_ ?_
      · clear k1_b2_0 g1_b2_0 k1_b2_1 g1_b2_1 k1_b2_2 g1_b2_2 k1_b2_3 g1_b2_3 k1_b3_0 g1_b3_0 k1_b3_1 g1_b3_1 k1_b3_2 g1_b3_2 k1_b3_3 g1_b3_3 B1 z1; intro f hf; have u7 : f 7 = (.agg #[.int .i64 M0, .int .i64 M1, .int .i64 M2, .int .i64 M3]) := (by rw [← hf]; rfl); have u9 : f 9 = (.agg #[.int .i64 a, .int .i64 b, .int .i64 c, .int .i64 d]) := (by rw [← hf]; rfl); clear hf; rintro w' ⟨h0, h1, h2, h3, h4, h5, h6, h7, h8, h9, h10, h11, h12, h13, h14, h15⟩; go_simp; try exact IntWalk.i64_in _ (by omega)
      refine obe_val (by rfl) ?_ ?_
      · clear k1_b2_0 g1_b2_0 k1_b2_1 g1_b2_1 k1_b2_2 g1_b2_2 k1_b2_3 g1_b2_3 k1_b3_0 g1_b3_0 k1_b3_1 g1_b3_1 k1_b3_2 g1_b3_2 k1_b3_3 g1_b3_3 B1 z1; intro f hf; have u10 : f 10 = (.bool false) := (by rw [← hf]; rfl); clear hf; rintro w' ⟨h0, h1, h2, h3, h4, h5, h6, h7, h8, h9, h10, h11, h12, h13, h14, h15⟩; go_simp; try exact IntWalk.i64_in _ (by omega)
      refine obe_nil ?_
      rintro w2 ⟨h0, h1, h2, h3, h4, h5, h6, h7, h8, h9, h10, h11, h12, h13, h14, h15⟩ hb2 hF
      (try simp only [List.nil_append, List.append_nil, List.cons_append] at hF)
      simp only [puts, putD, Act.put, List.setIfInBounds_toArray, List.set_cons_zero, List.set_cons_succ]
      clear hF
      have k2_b2_0 := bcs hb2 k1_b2_0
      have g2_b2_0 := bfs hb2 k1_b2_0 g1_b2_0
      have k2_b2_1 := bcs hb2 k1_b2_1
      have g2_b2_1 := bfs hb2 k1_b2_1 g1_b2_1
      have k2_b2_2 := bcs hb2 k1_b2_2
      have g2_b2_2 := bfs hb2 k1_b2_2 g1_b2_2
      have k2_b2_3 := bcs hb2 k1_b2_3
      have g2_b2_3 := bfs hb2 k1_b2_3 g1_b2_3
      have k2_b3_0 := bcs hb2 k1_b3_0
      have g2_b3_0 := bfs hb2 k1_b3_0 g1_b3_0
      have k2_b3_1 := bcs hb2 k1_b3_1
      have g2_b3_1 := bfs hb2 k1_b3_1 g1_b3_1
      have k2_b3_2 := bcs hb2 k1_b3_2
      have g2_b3_2 := bfs hb2 k1_b3_2 g1_b3_2
      have k2_b3_3 := bcs hb2 k1_b3_3
      have g2_b3_3 := bfs hb2 k1_b3_3 g1_b3_3
      clear h0 h1 h2 h3 h4 h5 h6 h7 h8 h9 h10 h11 h12 h13 h14 h15
      have B2 := bel_step B1 hb2
      have z2 := Nat.le_trans z1 hb2.size
      clear hb2
      (try clear B1)
      (try clear z1)
      (try clear k1_b2_0)
      (try clear g1_b2_0)
      (try clear k1_b2_1)
      (try clear g1_b2_1)
      (try clear k1_b2_2)
      (try clear g1_b2_2)
      (try clear k1_b2_3)
      (try clear g1_b2_3)
      (try clear k1_b3_0)
      (try clear g1_b3_0)
      (try clear k1_b3_1)
      (try clear g1_b3_1)
      (try clear k1_b3_2)
      (try clear g1_b3_2)
      (try clear k1_b3_3)
      (try clear g1_b3_3)
      (try clear q1_b2)
      (try clear x1_b2)
      (try clear y1_b2)
      (try clear q1_b3)
      (try clear x1_b3)
      (try clear y1_b3)
      have q2_b2 : w.heap.size < w2.heap.size := qlt k2_b2_0
      have x2_b2 : ¬ w.heap.size = w2.heap.size := qne k2_b2_0
      have y2_b2 : ¬ w2.heap.size = w.heap.size := fun h => qne k2_b2_0 h.symm
      have q2_b3 : w.heap.size + 1 < w2.heap.size := qlt k2_b3_0
      have x2_b3 : ¬ w.heap.size + 1 = w2.heap.size := qne k2_b3_0
      have y2_b3 : ¬ w2.heap.size = w.heap.size + 1 := fun h => qne k2_b3_0 h.symm
      unfold wpList
      go_wp2
      go_ret
      refine ⟨rfl, ?_⟩
      repeat (first | with_reducible exact Below.refl _ _ | with_reducible exact B2 | with_reducible apply below_drewN | with_reducible apply Below.drew | (with_reducible refine Below.alloc ?_ (by first | (simp; done) | (simp; omega) | omega) _) | (with_reducible refine Below.setCell ?_ (by first | (simp; done) | (simp; omega) | omega) _))

end Go.Proofs.Ytciaidlkhlgflaa
