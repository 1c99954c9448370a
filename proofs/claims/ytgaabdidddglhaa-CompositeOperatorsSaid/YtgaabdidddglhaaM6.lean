import Derived.Test.YtgaabdidddglhaaM4
import Derived.WalkKit
import Derived.WalkSpells
import Derived.WalkLawsBesides
import Derived.Lib.Hide
import Derived.Below
import Derived.Deep.QuietTactic
import Derived.BigQuiet
import Derived.Deep.RegionHeld3
import Derived.Deep.DrawnRows
import Derived.Deep.DeepFit
import Derived.IntWalk
namespace Go.Proofs.Ytgaabdidddglhaa
open Go.RowKit
set_option linter.unusedVariables false
set_option linter.unusedSimpArgs false
attribute [local go_sem ↓] Go.wp_at_zero Go.wp_at_succ
attribute [local go_sem] rhoF_tmp rhoF_const rhoF_global rhoF_func
theorem rdivNorm8_any (n : Int) (w : World) :
    Calls Try.prog 28 #[.int .i64 n] w fun e w' => e = .returned (.int .u8 (divN n)) ∧ w = w' := by
  by_cases h1 : n < 0
  · have e : divN n = 0 := by unfold divN clampV; rw [if_pos h1]; omega
    rw [e]; clear e
    go_enter Try.func28, Try.ntmps28
    go_wp2
    go_ret
    exact ⟨rfl, rfl⟩
  · by_cases h2 : 65025 < n
    · have e : divN n = 255 := by unfold divN clampV; rw [if_neg h1, if_pos h2]; omega
      rw [e]; clear e
      go_enter Try.func28, Try.ntmps28
      go_wp2
      go_ret
      exact ⟨rfl, rfl⟩
    · have e : divN n = (2 * n + 255) / 510 := by unfold divN clampV; rw [if_neg h1, if_neg h2]; omega
      rw [e]; clear e
      go_enter Try.func28, Try.ntmps28
      go_wp2
      go_ret
      exact ⟨rfl, rfl⟩


set_option maxRecDepth 20000 in
set_option maxHeartbeats 8000000 in
theorem rcompose_any (op r g b a s t u d : Int) (r0 : 0 ≤ r) (r1 : r ≤ 255) (g0 : 0 ≤ g) (g1 : g ≤ 255) (b0 : 0 ≤ b) (b1 : b ≤ 255) (a0 : 0 ≤ a) (a1 : a ≤ 255) (s0 : 0 ≤ s) (s1 : s ≤ 255) (t0 : 0 ≤ t) (t1 : t ≤ 255) (u0 : 0 ≤ u) (u1 : u ≤ 255) (d0 : 0 ≤ d) (d1 : d ≤ 255) (w : World) :
    Calls Try.prog 16 #[.int .i64 op, .agg #[.int .u8 r, .int .u8 g, .int .u8 b, .int .u8 a], .agg #[.int .u8 s, .int .u8 t, .int .u8 u, .int .u8 d]] w fun e w' => e = .returned (.agg #[.int .u8 (cpv (min r a) (min s d) (fac1 op a d) (ff2 op a d)), .int .u8 (cpv (min g a) (min t d) (fac1 op a d) (ff2 op a d)), .int .u8 (cpv (min b a) (min u d) (fac1 op a d) (ff2 op a d)), .int .u8 (cpv (a) (d) (fac1 op a d) (ff2 op a d))]) ∧ Below w.heap.size w w' := by
  have f1b := fac1_bd op a d a0 a1 d0 d1
  have f2b := ff2_bd op a d a0 a1 d0 d1
  have cf := fun w => rfactors_any op a d a0 a1 d0 d1 w
  obtain ⟨f1, hf1⟩ : ∃ z, fac1 op a d = z := ⟨_, rfl⟩
  obtain ⟨f2, hf2⟩ : ∃ z, ff2 op a d = z := ⟨_, rfl⟩
  rw [hf1] at cf f1b ⊢
  rw [hf2] at cf f2b ⊢
  clear hf1 hf2
  obtain ⟨cr, hr⟩ : ∃ x, min r a = x := ⟨_, rfl⟩
  obtain ⟨cg, hg⟩ : ∃ x, min g a = x := ⟨_, rfl⟩
  obtain ⟨cb, hb⟩ : ∃ x, min b a = x := ⟨_, rfl⟩
  obtain ⟨cs, hs⟩ : ∃ x, min s d = x := ⟨_, rfl⟩
  obtain ⟨ct, ht⟩ : ∃ x, min t d = x := ⟨_, rfl⟩
  obtain ⟨cu, hu⟩ : ∃ x, min u d = x := ⟨_, rfl⟩
  rw [hr, hg, hb, hs, ht, hu]
  unfold cpv
  have pb0 := cpv_bd (v := cr) (w := cs) (f := f1) (g := f2) (by omega) (by omega) (by omega) (by omega) f1b.1 f1b.2 f2b.1 f2b.2
  have cd0 := fun w => rdivNorm8_any (cr * f1 + cs * f2) w
  obtain ⟨l0, hl0⟩ : ∃ z, divN (cr * f1 + cs * f2) = z := ⟨_, rfl⟩
  rw [hl0] at cd0
  obtain ⟨m0, hm0⟩ : ∃ z, cr * f1 = z := ⟨_, rfl⟩
  obtain ⟨n0, hn0⟩ : ∃ z, cs * f2 = z := ⟨_, rfl⟩
  rw [hm0, hn0] at cd0 pb0
  obtain ⟨sm0, hs0⟩ : ∃ z, m0 + n0 = z := ⟨_, rfl⟩
  rw [hs0] at cd0
  have pb1 := cpv_bd (v := cg) (w := ct) (f := f1) (g := f2) (by omega) (by omega) (by omega) (by omega) f1b.1 f1b.2 f2b.1 f2b.2
  have cd1 := fun w => rdivNorm8_any (cg * f1 + ct * f2) w
  obtain ⟨l1, hl1⟩ : ∃ z, divN (cg * f1 + ct * f2) = z := ⟨_, rfl⟩
  rw [hl1] at cd1
  obtain ⟨m1, hm1⟩ : ∃ z, cg * f1 = z := ⟨_, rfl⟩
  obtain ⟨n1, hn1⟩ : ∃ z, ct * f2 = z := ⟨_, rfl⟩
  rw [hm1, hn1] at cd1 pb1
  obtain ⟨sm1, hs1⟩ : ∃ z, m1 + n1 = z := ⟨_, rfl⟩
  rw [hs1] at cd1
  have pb2 := cpv_bd (v := cb) (w := cu) (f := f1) (g := f2) (by omega) (by omega) (by omega) (by omega) f1b.1 f1b.2 f2b.1 f2b.2
  have cd2 := fun w => rdivNorm8_any (cb * f1 + cu * f2) w
  obtain ⟨l2, hl2⟩ : ∃ z, divN (cb * f1 + cu * f2) = z := ⟨_, rfl⟩
  rw [hl2] at cd2
  obtain ⟨m2, hm2⟩ : ∃ z, cb * f1 = z := ⟨_, rfl⟩
  obtain ⟨n2, hn2⟩ : ∃ z, cu * f2 = z := ⟨_, rfl⟩
  rw [hm2, hn2] at cd2 pb2
  obtain ⟨sm2, hs2⟩ : ∃ z, m2 + n2 = z := ⟨_, rfl⟩
  rw [hs2] at cd2
  have pb3 := cpv_bd (v := a) (w := d) (f := f1) (g := f2) (by omega) (by omega) (by omega) (by omega) f1b.1 f1b.2 f2b.1 f2b.2
  have cd3 := fun w => rdivNorm8_any (a * f1 + d * f2) w
  obtain ⟨l3, hl3⟩ : ∃ z, divN (a * f1 + d * f2) = z := ⟨_, rfl⟩
  rw [hl3] at cd3
  obtain ⟨m3, hm3⟩ : ∃ z, a * f1 = z := ⟨_, rfl⟩
  obtain ⟨n3, hn3⟩ : ∃ z, d * f2 = z := ⟨_, rfl⟩
  rw [hm3, hn3] at cd3 pb3
  obtain ⟨sm3, hs3⟩ : ∃ z, m3 + n3 = z := ⟨_, rfl⟩
  rw [hs3] at cd3
  rw [hl0, hl1, hl2, hl3]
  clear hl0 hl1 hl2 hl3
  go_enter Try.func16, Try.ntmps16
  go_wp2
  refine wp_region_env (fun w' => w'.cell? ⟨w.heap.size, 0, none⟩ = some (.int .u8 r) ∧ w'.frozen? ⟨w.heap.size, 0, none⟩ = false ∧ w'.cell? ⟨w.heap.size, 1, none⟩ = some (.int .u8 g) ∧ w'.frozen? ⟨w.heap.size, 1, none⟩ = false ∧ w'.cell? ⟨w.heap.size, 2, none⟩ = some (.int .u8 b) ∧ w'.frozen? ⟨w.heap.size, 2, none⟩ = false ∧ w'.cell? ⟨w.heap.size, 3, none⟩ = some (.int .u8 a) ∧ w'.frozen? ⟨w.heap.size, 3, none⟩ = false ∧ w'.cell? ⟨w.heap.size + 1, 0, none⟩ = some (.int .u8 s) ∧ w'.frozen? ⟨w.heap.size + 1, 0, none⟩ = false ∧ w'.cell? ⟨w.heap.size + 1, 1, none⟩ = some (.int .u8 t) ∧ w'.frozen? ⟨w.heap.size + 1, 1, none⟩ = false ∧ w'.cell? ⟨w.heap.size + 1, 2, none⟩ = some (.int .u8 u) ∧ w'.frozen? ⟨w.heap.size + 1, 2, none⟩ = false ∧ w'.cell? ⟨w.heap.size + 1, 3, none⟩ = some (.int .u8 d) ∧ w'.frozen? ⟨w.heap.size + 1, 3, none⟩ = false ∧ w'.cell? ⟨w.heap.size + 1 + 1, 0, none⟩ = some (.int .u8 0) ∧ w'.frozen? ⟨w.heap.size + 1 + 1, 0, none⟩ = false ∧ w'.cell? ⟨w.heap.size + 1 + 1, 1, none⟩ = some (.int .u8 0) ∧ w'.frozen? ⟨w.heap.size + 1 + 1, 1, none⟩ = false ∧ w'.cell? ⟨w.heap.size + 1 + 1, 2, none⟩ = some (.int .u8 0) ∧ w'.frozen? ⟨w.heap.size + 1 + 1, 2, none⟩ = false ∧ w'.cell? ⟨w.heap.size + 1 + 1, 3, none⟩ = some (.int .u8 0) ∧ w'.frozen? ⟨w.heap.size + 1 + 1, 3, none⟩ = false) (fun W => W.cell? ⟨w.heap.size, 0, none⟩ = some (.int .u8 r) ∧ W.frozen? ⟨w.heap.size, 0, none⟩ = false ∧ W.cell? ⟨w.heap.size, 1, none⟩ = some (.int .u8 g) ∧ W.frozen? ⟨w.heap.size, 1, none⟩ = false ∧ W.cell? ⟨w.heap.size, 2, none⟩ = some (.int .u8 b) ∧ W.frozen? ⟨w.heap.size, 2, none⟩ = false ∧ W.cell? ⟨w.heap.size, 3, none⟩ = some (.int .u8 a) ∧ W.frozen? ⟨w.heap.size, 3, none⟩ = false ∧ W.cell? ⟨w.heap.size + 1, 0, none⟩ = some (.int .u8 s) ∧ W.frozen? ⟨w.heap.size + 1, 0, none⟩ = false ∧ W.cell? ⟨w.heap.size + 1, 1, none⟩ = some (.int .u8 t) ∧ W.frozen? ⟨w.heap.size + 1, 1, none⟩ = false ∧ W.cell? ⟨w.heap.size + 1, 2, none⟩ = some (.int .u8 u) ∧ W.frozen? ⟨w.heap.size + 1, 2, none⟩ = false ∧ W.cell? ⟨w.heap.size + 1, 3, none⟩ = some (.int .u8 d) ∧ W.frozen? ⟨w.heap.size + 1, 3, none⟩ = false ∧ W.cell? ⟨w.heap.size + 1 + 1, 0, none⟩ = some (.int .u8 0) ∧ W.frozen? ⟨w.heap.size + 1 + 1, 0, none⟩ = false ∧ W.cell? ⟨w.heap.size + 1 + 1, 1, none⟩ = some (.int .u8 0) ∧ W.frozen? ⟨w.heap.size + 1 + 1, 1, none⟩ = false ∧ W.cell? ⟨w.heap.size + 1 + 1, 2, none⟩ = some (.int .u8 0) ∧ W.frozen? ⟨w.heap.size + 1 + 1, 2, none⟩ = false ∧ W.cell? ⟨w.heap.size + 1 + 1, 3, none⟩ = some (.int .u8 0) ∧ W.frozen? ⟨w.heap.size + 1 + 1, 3, none⟩ = false ∧ Below w.heap.size w W ∧ w.heap.size + 1 + 1 + 1 ≤ W.heap.size) 6 73 [.val (.agg #[.int .u8 r, .int .u8 g, .int .u8 b, .int .u8 a]), .call 21 #[.agg #[.int .u8 r, .int .u8 g, .int .u8 b, .int .u8 a]] (.agg #[.int .u8 cr, .int .u8 cg, .int .u8 cb, .int .u8 a]), .val (.agg #[.int .u8 s, .int .u8 t, .int .u8 u, .int .u8 d]), .call 21 #[.agg #[.int .u8 s, .int .u8 t, .int .u8 u, .int .u8 d]] (.agg #[.int .u8 cs, .int .u8 ct, .int .u8 cu, .int .u8 d]), .fresh (.cells #[.int .u8 0, .int .u8 0, .int .u8 0, .int .u8 0] 29), .fresh (.cells #[.int .u8 0, .int .u8 0, .int .u8 0, .int .u8 0] 29)] (by kernel_rfl) (by kernel_rfl) rfl (by kernel_rfl) (by rintro w1 w2 ⟨h0, h1, h2, h3, h4, h5, h6, h7, h8, h9, h10, h11, h12, h13, h14, h15, h16, h17, h18, h19, h20, h21, h22, h23⟩ hb; exact ⟨bcs hb h0, bfs hb h0 h1, bcs hb h2, bfs hb h2 h3, bcs hb h4, bfs hb h4 h5, bcs hb h6, bfs hb h6 h7, bcs hb h8, bfs hb h8 h9, bcs hb h10, bfs hb h10 h11, bcs hb h12, bfs hb h12 h13, bcs hb h14, bfs hb h14 h15, bcs hb h16, bfs hb h16 h17, bcs hb h18, bfs hb h18 h19, bcs hb h20, bfs hb h20 h21, bcs hb h22, bfs hb h22 h23⟩) ⟨by first | with_reducible assumption | go_simp, by first | with_reducible assumption | go_simp, by first | with_reducible assumption | go_simp, by first | with_reducible assumption | go_simp, by first | with_reducible assumption | go_simp, by first | with_reducible assumption | go_simp, by first | with_reducible assumption | go_simp, by first | with_reducible assumption | go_simp, by first | with_reducible assumption | go_simp, by first | with_reducible assumption | go_simp, by first | with_reducible assumption | go_simp, by first | with_reducible assumption | go_simp, by first | with_reducible assumption | go_simp, by first | with_reducible assumption | go_simp, by first | with_reducible assumption | go_simp, by first | with_reducible assumption | go_simp, by first | with_reducible assumption | go_simp, by first | with_reducible assumption | go_simp, by first | with_reducible assumption | go_simp, by first | with_reducible assumption | go_simp, by first | with_reducible assumption | go_simp, by first | with_reducible assumption | go_simp, by first | with_reducible assumption | go_simp, by first | with_reducible assumption | go_simp, by repeat (first | with_reducible exact Below.refl _ _ | fail | with_reducible apply below_drewN | with_reducible apply Below.drew | (with_reducible refine Below.alloc ?_ (by first | (simp; done) | (simp; omega) | omega) _) | (with_reducible refine Below.setCell ?_ (by first | (simp; done) | (simp; omega) | omega) _)), by first | with_reducible assumption | (simp; done) | (simp; omega)⟩ ?_ ?_
  · rintro W ⟨k1_b4_0, g1_b4_0, k1_b4_1, g1_b4_1, k1_b4_2, g1_b4_2, k1_b4_3, g1_b4_3, k1_b5_0, g1_b5_0, k1_b5_1, g1_b5_1, k1_b5_2, g1_b5_2, k1_b5_3, g1_b5_3, k1_b6_0, g1_b6_0, k1_b6_1, g1_b6_1, k1_b6_2, g1_b6_2, k1_b6_3, g1_b6_3, B1, z1⟩; exact ⟨k1_b4_0, g1_b4_0, k1_b4_1, g1_b4_1, k1_b4_2, g1_b4_2, k1_b4_3, g1_b4_3, k1_b5_0, g1_b5_0, k1_b5_1, g1_b5_1, k1_b5_2, g1_b5_2, k1_b5_3, g1_b5_3, k1_b6_0, g1_b6_0, k1_b6_1, g1_b6_1, k1_b6_2, g1_b6_2, k1_b6_3, g1_b6_3⟩
  rintro w1 ⟨k1_b4_0, g1_b4_0, k1_b4_1, g1_b4_1, k1_b4_2, g1_b4_2, k1_b4_3, g1_b4_3, k1_b5_0, g1_b5_0, k1_b5_1, g1_b5_1, k1_b5_2, g1_b5_2, k1_b5_3, g1_b5_3, k1_b6_0, g1_b6_0, k1_b6_1, g1_b6_1, k1_b6_2, g1_b6_2, k1_b6_3, g1_b6_3, B1, z1⟩ gg
  simp only [List.take_succ_cons, List.take_zero, List.drop_succ_cons, List.drop_zero, List.cons_append, List.nil_append, List.append_nil]
  refine obe_val (by rfl) ?_ ?_
  · clear k1_b4_0 g1_b4_0 k1_b4_1 g1_b4_1 k1_b4_2 g1_b4_2 k1_b4_3 g1_b4_3 k1_b5_0 g1_b5_0 k1_b5_1 g1_b5_1 k1_b5_2 g1_b5_2 k1_b5_3 g1_b5_3 k1_b6_0 g1_b6_0 k1_b6_1 g1_b6_1 k1_b6_2 g1_b6_2 k1_b6_3 g1_b6_3 B1 z1; intro f hf; have u4 : f 4 = (.pointer (some ⟨w.heap.size, 0, none⟩)) := (by rw [← hf]; rfl); clear hf; rintro w' ⟨h0, h1, h2, h3, h4, h5, h6, h7, h8, h9, h10, h11, h12, h13, h14, h15, h16, h17, h18, h19, h20, h21, h22, h23⟩; go_simp; try exact IntWalk.i64_in _ (by omega)
  refine obe_call (by rfl) ?_ ?_ ?_
  · clear k1_b4_0 g1_b4_0 k1_b4_1 g1_b4_1 k1_b4_2 g1_b4_2 k1_b4_3 g1_b4_3 k1_b5_0 g1_b5_0 k1_b5_1 g1_b5_1 k1_b5_2 g1_b5_2 k1_b5_3 g1_b5_3 k1_b6_0 g1_b6_0 k1_b6_1 g1_b6_1 k1_b6_2 g1_b6_2 k1_b6_3 g1_b6_3 B1 z1; intro f hf; have u11 : f 11 = (.agg #[.int .u8 r, .int .u8 g, .int .u8 b, .int .u8 a]) := (by rw [← hf]; rfl); clear hf; intro w' _; simp only [execOp, resolve, invoke, rhoF_tmp, rhoF_func, rhoF_const, u11, List.map_toArray, List.map_cons, List.map_nil]; go_simp
  · clear k1_b4_0 g1_b4_0 k1_b4_1 g1_b4_1 k1_b4_2 g1_b4_2 k1_b4_3 g1_b4_3 k1_b5_0 g1_b5_0 k1_b5_1 g1_b5_1 k1_b5_2 g1_b5_2 k1_b5_3 g1_b5_3 k1_b6_0 g1_b6_0 k1_b6_1 g1_b6_1 k1_b6_2 g1_b6_2 k1_b6_3 g1_b6_3 B1 z1; rintro w' ⟨h0, h1, h2, h3, h4, h5, h6, h7, h8, h9, h10, h11, h12, h13, h14, h15, h16, h17, h18, h19, h20, h21, h22, h23⟩; exact rpclamp_any r g b a cr cg cb hr hg hb _
  refine obe_val (by rfl) ?_ ?_
  · clear k1_b4_0 g1_b4_0 k1_b4_1 g1_b4_1 k1_b4_2 g1_b4_2 k1_b4_3 g1_b4_3 k1_b5_0 g1_b5_0 k1_b5_1 g1_b5_1 k1_b5_2 g1_b5_2 k1_b5_3 g1_b5_3 k1_b6_0 g1_b6_0 k1_b6_1 g1_b6_1 k1_b6_2 g1_b6_2 k1_b6_3 g1_b6_3 B1 z1; intro f hf; have u5 : f 5 = (.pointer (some ⟨w.heap.size + 1, 0, none⟩)) := (by rw [← hf]; rfl); clear hf; rintro w' ⟨h0, h1, h2, h3, h4, h5, h6, h7, h8, h9, h10, h11, h12, h13, h14, h15, h16, h17, h18, h19, h20, h21, h22, h23⟩; go_simp; try exact IntWalk.i64_in _ (by omega)
  refine obe_call (by rfl) ?_ ?_ ?_
  · clear k1_b4_0 g1_b4_0 k1_b4_1 g1_b4_1 k1_b4_2 g1_b4_2 k1_b4_3 g1_b4_3 k1_b5_0 g1_b5_0 k1_b5_1 g1_b5_1 k1_b5_2 g1_b5_2 k1_b5_3 g1_b5_3 k1_b6_0 g1_b6_0 k1_b6_1 g1_b6_1 k1_b6_2 g1_b6_2 k1_b6_3 g1_b6_3 B1 z1; intro f hf; have u13 : f 13 = (.agg #[.int .u8 s, .int .u8 t, .int .u8 u, .int .u8 d]) := (by rw [← hf]; rfl); clear hf; intro w' _; simp only [execOp, resolve, invoke, rhoF_tmp, rhoF_func, rhoF_const, u13, List.map_toArray, List.map_cons, List.map_nil]; go_simp
  · clear k1_b4_0 g1_b4_0 k1_b4_1 g1_b4_1 k1_b4_2 g1_b4_2 k1_b4_3 g1_b4_3 k1_b5_0 g1_b5_0 k1_b5_1 g1_b5_1 k1_b5_2 g1_b5_2 k1_b5_3 g1_b5_3 k1_b6_0 g1_b6_0 k1_b6_1 g1_b6_1 k1_b6_2 g1_b6_2 k1_b6_3 g1_b6_3 B1 z1; rintro w' ⟨h0, h1, h2, h3, h4, h5, h6, h7, h8, h9, h10, h11, h12, h13, h14, h15, h16, h17, h18, h19, h20, h21, h22, h23⟩; exact rpclamp_any s t u d cs ct cu hs ht hu _
  refine obe_fresh (by rfl) ?_ ?_
  · clear k1_b4_0 g1_b4_0 k1_b4_1 g1_b4_1 k1_b4_2 g1_b4_2 k1_b4_3 g1_b4_3 k1_b5_0 g1_b5_0 k1_b5_1 g1_b5_1 k1_b5_2 g1_b5_2 k1_b5_3 g1_b5_3 k1_b6_0 g1_b6_0 k1_b6_1 g1_b6_1 k1_b6_2 g1_b6_2 k1_b6_3 g1_b6_3 B1 z1; intro f hf; clear hf; rintro w' ⟨h0, h1, h2, h3, h4, h5, h6, h7, h8, h9, h10, h11, h12, h13, h14, h15, h16, h17, h18, h19, h20, h21, h22, h23⟩; go_simp
  refine obe_fresh (by rfl) ?_ ?_
  · clear k1_b4_0 g1_b4_0 k1_b4_1 g1_b4_1 k1_b4_2 g1_b4_2 k1_b4_3 g1_b4_3 k1_b5_0 g1_b5_0 k1_b5_1 g1_b5_1 k1_b5_2 g1_b5_2 k1_b5_3 g1_b5_3 k1_b6_0 g1_b6_0 k1_b6_1 g1_b6_1 k1_b6_2 g1_b6_2 k1_b6_3 g1_b6_3 B1 z1; intro f hf; clear hf; rintro w' ⟨h0, h1, h2, h3, h4, h5, h6, h7, h8, h9, h10, h11, h12, h13, h14, h15, h16, h17, h18, h19, h20, h21, h22, h23⟩; go_simp
  refine obe_nil ?_
  rintro w2 ⟨h0, h1, h2, h3, h4, h5, h6, h7, h8, h9, h10, h11, h12, h13, h14, h15, h16, h17, h18, h19, h20, h21, h22, h23⟩ hb2 hF
  (try simp only [List.nil_append, List.append_nil, List.cons_append] at hF)
  simp only [puts, putD, Act.put, List.setIfInBounds_toArray, List.set_cons_zero, List.set_cons_succ]
  have lg7 : w1.heap.size ≤ gg 4 := hF.1.1
  have ug7 : gg 4 < w2.heap.size := hF.1.2.1
  have pg7 : w2.heap[gg 4]? = some (.cells #[.int .u8 0, .int .u8 0, .int .u8 0, .int .u8 0] 29) := hF.1.2.2
  have ng7_g8 : ¬ gg 4 = gg 5 := hF.2.1 (5, .cells #[.int .u8 0, .int .u8 0, .int .u8 0, .int .u8 0] 29) (by simp)
  have lg8 : w1.heap.size ≤ gg 5 := hF.2.2.1.1
  have ug8 : gg 5 < w2.heap.size := hF.2.2.1.2.1
  have pg8 : w2.heap[gg 5]? = some (.cells #[.int .u8 0, .int .u8 0, .int .u8 0, .int .u8 0] 29) := hF.2.2.1.2.2
  clear hF
  obtain ⟨g7, eg7⟩ : ∃ x, gg 4 = x := ⟨_, rfl⟩
  rw [eg7] at lg7 ug7 pg7 ng7_g8 ⊢
  clear eg7
  obtain ⟨g8, eg8⟩ : ∃ x, gg 5 = x := ⟨_, rfl⟩
  rw [eg8] at lg8 ug8 pg8 ng7_g8 ⊢
  clear eg8
  clear gg
  have k2_b4_0 := bcs hb2 k1_b4_0
  have g2_b4_0 := bfs hb2 k1_b4_0 g1_b4_0
  have k2_b4_1 := bcs hb2 k1_b4_1
  have g2_b4_1 := bfs hb2 k1_b4_1 g1_b4_1
  have k2_b4_2 := bcs hb2 k1_b4_2
  have g2_b4_2 := bfs hb2 k1_b4_2 g1_b4_2
  have k2_b4_3 := bcs hb2 k1_b4_3
  have g2_b4_3 := bfs hb2 k1_b4_3 g1_b4_3
  have k2_b5_0 := bcs hb2 k1_b5_0
  have g2_b5_0 := bfs hb2 k1_b5_0 g1_b5_0
  have k2_b5_1 := bcs hb2 k1_b5_1
  have g2_b5_1 := bfs hb2 k1_b5_1 g1_b5_1
  have k2_b5_2 := bcs hb2 k1_b5_2
  have g2_b5_2 := bfs hb2 k1_b5_2 g1_b5_2
  have k2_b5_3 := bcs hb2 k1_b5_3
  have g2_b5_3 := bfs hb2 k1_b5_3 g1_b5_3
  have k2_b6_0 := bcs hb2 k1_b6_0
  have g2_b6_0 := bfs hb2 k1_b6_0 g1_b6_0
  have k2_b6_1 := bcs hb2 k1_b6_1
  have g2_b6_1 := bfs hb2 k1_b6_1 g1_b6_1
  have k2_b6_2 := bcs hb2 k1_b6_2
  have g2_b6_2 := bfs hb2 k1_b6_2 g1_b6_2
  have k2_b6_3 := bcs hb2 k1_b6_3
  have g2_b6_3 := bfs hb2 k1_b6_3 g1_b6_3
  clear h0 h1 h2 h3 h4 h5 h6 h7 h8 h9 h10 h11 h12 h13 h14 h15 h16 h17 h18 h19 h20 h21 h22 h23
  have B2 := bel_step B1 hb2
  have z2 := Nat.le_trans z1 hb2.size
  have mg7 : w.heap.size ≤ g7 := by omega
  have ng7_b4 : ¬ g7 = w.heap.size := by omega
  have nb4_g7 : ¬ w.heap.size = g7 := by omega
  have ng7_b5 : ¬ g7 = w.heap.size + 1 := by omega
  have nb5_g7 : ¬ w.heap.size + 1 = g7 := by omega
  have ng7_b6 : ¬ g7 = w.heap.size + 1 + 1 := by omega
  have nb6_g7 : ¬ w.heap.size + 1 + 1 = g7 := by omega
  have k2_g7_0 : w2.cell? ⟨g7, 0, none⟩ = some (.int .u8 0) := cob pg7 0 rfl
  have g2_g7_0 : w2.frozen? ⟨g7, 0, none⟩ = false := fob pg7 0
  have k2_g7_1 : w2.cell? ⟨g7, 1, none⟩ = some (.int .u8 0) := cob pg7 1 rfl
  have g2_g7_1 : w2.frozen? ⟨g7, 1, none⟩ = false := fob pg7 1
  have k2_g7_2 : w2.cell? ⟨g7, 2, none⟩ = some (.int .u8 0) := cob pg7 2 rfl
  have g2_g7_2 : w2.frozen? ⟨g7, 2, none⟩ = false := fob pg7 2
  have k2_g7_3 : w2.cell? ⟨g7, 3, none⟩ = some (.int .u8 0) := cob pg7 3 rfl
  have g2_g7_3 : w2.frozen? ⟨g7, 3, none⟩ = false := fob pg7 3
  have mg8 : w.heap.size ≤ g8 := by omega
  have ng8_b4 : ¬ g8 = w.heap.size := by omega
  have nb4_g8 : ¬ w.heap.size = g8 := by omega
  have ng8_b5 : ¬ g8 = w.heap.size + 1 := by omega
  have nb5_g8 : ¬ w.heap.size + 1 = g8 := by omega
  have ng8_b6 : ¬ g8 = w.heap.size + 1 + 1 := by omega
  have nb6_g8 : ¬ w.heap.size + 1 + 1 = g8 := by omega
  have k2_g8_0 : w2.cell? ⟨g8, 0, none⟩ = some (.int .u8 0) := cob pg8 0 rfl
  have g2_g8_0 : w2.frozen? ⟨g8, 0, none⟩ = false := fob pg8 0
  have k2_g8_1 : w2.cell? ⟨g8, 1, none⟩ = some (.int .u8 0) := cob pg8 1 rfl
  have g2_g8_1 : w2.frozen? ⟨g8, 1, none⟩ = false := fob pg8 1
  have k2_g8_2 : w2.cell? ⟨g8, 2, none⟩ = some (.int .u8 0) := cob pg8 2 rfl
  have g2_g8_2 : w2.frozen? ⟨g8, 2, none⟩ = false := fob pg8 2
  have k2_g8_3 : w2.cell? ⟨g8, 3, none⟩ = some (.int .u8 0) := cob pg8 3 rfl
  have g2_g8_3 : w2.frozen? ⟨g8, 3, none⟩ = false := fob pg8 3
  have ng8_g7 : ¬ g8 = g7 := fun h => ng7_g8 h.symm
  clear lg7 ug7 pg7
  clear lg8 ug8 pg8
  clear hb2
  (try clear B1)
  (try clear z1)
  (try clear k1_b4_0)
  (try clear g1_b4_0)
  (try clear k1_b4_1)
  (try clear g1_b4_1)
  (try clear k1_b4_2)
  (try clear g1_b4_2)
  (try clear k1_b4_3)
  (try clear g1_b4_3)
  (try clear k1_b5_0)
  (try clear g1_b5_0)
  (try clear k1_b5_1)
  (try clear g1_b5_1)
  (try clear k1_b5_2)
  (try clear g1_b5_2)
  (try clear k1_b5_3)
  (try clear g1_b5_3)
  (try clear k1_b6_0)
  (try clear g1_b6_0)
  (try clear k1_b6_1)
  (try clear g1_b6_1)
  (try clear k1_b6_2)
  (try clear g1_b6_2)
  (try clear k1_b6_3)
  (try clear g1_b6_3)
  (try clear q1_b4)
  (try clear x1_b4)
  (try clear y1_b4)
  (try clear q1_b5)
  (try clear x1_b5)
  (try clear y1_b5)
  (try clear q1_b6)
  (try clear x1_b6)
  (try clear y1_b6)
  have q2_b4 : w.heap.size < w2.heap.size := qlt k2_b4_0
  have x2_b4 : ¬ w.heap.size = w2.heap.size := qne k2_b4_0
  have y2_b4 : ¬ w2.heap.size = w.heap.size := fun h => qne k2_b4_0 h.symm
  have q2_b5 : w.heap.size + 1 < w2.heap.size := qlt k2_b5_0
  have x2_b5 : ¬ w.heap.size + 1 = w2.heap.size := qne k2_b5_0
  have y2_b5 : ¬ w2.heap.size = w.heap.size + 1 := fun h => qne k2_b5_0 h.symm
  have q2_b6 : w.heap.size + 1 + 1 < w2.heap.size := qlt k2_b6_0
  have x2_b6 : ¬ w.heap.size + 1 + 1 = w2.heap.size := qne k2_b6_0
  have y2_b6 : ¬ w2.heap.size = w.heap.size + 1 + 1 := fun h => qne k2_b6_0 h.symm
  have q2_g7 : g7 < w2.heap.size := qlt k2_g7_0
  have x2_g7 : ¬ g7 = w2.heap.size := qne k2_g7_0
  have y2_g7 : ¬ w2.heap.size = g7 := fun h => qne k2_g7_0 h.symm
  have q2_g8 : g8 < w2.heap.size := qlt k2_g8_0
  have x2_g8 : ¬ g8 = w2.heap.size := qne k2_g8_0
  have y2_g8 : ¬ w2.heap.size = g8 := fun h => qne k2_g8_0 h.symm
  go_wp2_with (first | (go_at_call 11; (with_reducible refine (cf _).mono ?_); rintro e w9 ⟨rfl, rfl⟩))
  refine wp_region_env (fun w' => w'.cell? ⟨w.heap.size, 0, none⟩ = some (.int .u8 r) ∧ w'.frozen? ⟨w.heap.size, 0, none⟩ = false ∧ w'.cell? ⟨w.heap.size, 1, none⟩ = some (.int .u8 g) ∧ w'.frozen? ⟨w.heap.size, 1, none⟩ = false ∧ w'.cell? ⟨w.heap.size, 2, none⟩ = some (.int .u8 b) ∧ w'.frozen? ⟨w.heap.size, 2, none⟩ = false ∧ w'.cell? ⟨w.heap.size, 3, none⟩ = some (.int .u8 a) ∧ w'.frozen? ⟨w.heap.size, 3, none⟩ = false ∧ w'.cell? ⟨w.heap.size + 1, 0, none⟩ = some (.int .u8 s) ∧ w'.frozen? ⟨w.heap.size + 1, 0, none⟩ = false ∧ w'.cell? ⟨w.heap.size + 1, 1, none⟩ = some (.int .u8 t) ∧ w'.frozen? ⟨w.heap.size + 1, 1, none⟩ = false ∧ w'.cell? ⟨w.heap.size + 1, 2, none⟩ = some (.int .u8 u) ∧ w'.frozen? ⟨w.heap.size + 1, 2, none⟩ = false ∧ w'.cell? ⟨w.heap.size + 1, 3, none⟩ = some (.int .u8 d) ∧ w'.frozen? ⟨w.heap.size + 1, 3, none⟩ = false ∧ w'.cell? ⟨w.heap.size + 1 + 1, 0, none⟩ = some (.int .u8 0) ∧ w'.frozen? ⟨w.heap.size + 1 + 1, 0, none⟩ = false ∧ w'.cell? ⟨w.heap.size + 1 + 1, 1, none⟩ = some (.int .u8 0) ∧ w'.frozen? ⟨w.heap.size + 1 + 1, 1, none⟩ = false ∧ w'.cell? ⟨w.heap.size + 1 + 1, 2, none⟩ = some (.int .u8 0) ∧ w'.frozen? ⟨w.heap.size + 1 + 1, 2, none⟩ = false ∧ w'.cell? ⟨w.heap.size + 1 + 1, 3, none⟩ = some (.int .u8 0) ∧ w'.frozen? ⟨w.heap.size + 1 + 1, 3, none⟩ = false ∧ w'.cell? ⟨g7, 0, none⟩ = some (.int .u8 cr) ∧ w'.frozen? ⟨g7, 0, none⟩ = false ∧ w'.cell? ⟨g7, 1, none⟩ = some (.int .u8 cg) ∧ w'.frozen? ⟨g7, 1, none⟩ = false ∧ w'.cell? ⟨g7, 2, none⟩ = some (.int .u8 cb) ∧ w'.frozen? ⟨g7, 2, none⟩ = false ∧ w'.cell? ⟨g7, 3, none⟩ = some (.int .u8 a) ∧ w'.frozen? ⟨g7, 3, none⟩ = false ∧ w'.cell? ⟨g8, 0, none⟩ = some (.int .u8 cs) ∧ w'.frozen? ⟨g8, 0, none⟩ = false ∧ w'.cell? ⟨g8, 1, none⟩ = some (.int .u8 ct) ∧ w'.frozen? ⟨g8, 1, none⟩ = false ∧ w'.cell? ⟨g8, 2, none⟩ = some (.int .u8 cu) ∧ w'.frozen? ⟨g8, 2, none⟩ = false ∧ w'.cell? ⟨g8, 3, none⟩ = some (.int .u8 d) ∧ w'.frozen? ⟨g8, 3, none⟩ = false) (fun W => W.cell? ⟨w.heap.size, 0, none⟩ = some (.int .u8 r) ∧ W.frozen? ⟨w.heap.size, 0, none⟩ = false ∧ W.cell? ⟨w.heap.size, 1, none⟩ = some (.int .u8 g) ∧ W.frozen? ⟨w.heap.size, 1, none⟩ = false ∧ W.cell? ⟨w.heap.size, 2, none⟩ = some (.int .u8 b) ∧ W.frozen? ⟨w.heap.size, 2, none⟩ = false ∧ W.cell? ⟨w.heap.size, 3, none⟩ = some (.int .u8 a) ∧ W.frozen? ⟨w.heap.size, 3, none⟩ = false ∧ W.cell? ⟨w.heap.size + 1, 0, none⟩ = some (.int .u8 s) ∧ W.frozen? ⟨w.heap.size + 1, 0, none⟩ = false ∧ W.cell? ⟨w.heap.size + 1, 1, none⟩ = some (.int .u8 t) ∧ W.frozen? ⟨w.heap.size + 1, 1, none⟩ = false ∧ W.cell? ⟨w.heap.size + 1, 2, none⟩ = some (.int .u8 u) ∧ W.frozen? ⟨w.heap.size + 1, 2, none⟩ = false ∧ W.cell? ⟨w.heap.size + 1, 3, none⟩ = some (.int .u8 d) ∧ W.frozen? ⟨w.heap.size + 1, 3, none⟩ = false ∧ W.cell? ⟨w.heap.size + 1 + 1, 0, none⟩ = some (.int .u8 0) ∧ W.frozen? ⟨w.heap.size + 1 + 1, 0, none⟩ = false ∧ W.cell? ⟨w.heap.size + 1 + 1, 1, none⟩ = some (.int .u8 0) ∧ W.frozen? ⟨w.heap.size + 1 + 1, 1, none⟩ = false ∧ W.cell? ⟨w.heap.size + 1 + 1, 2, none⟩ = some (.int .u8 0) ∧ W.frozen? ⟨w.heap.size + 1 + 1, 2, none⟩ = false ∧ W.cell? ⟨w.heap.size + 1 + 1, 3, none⟩ = some (.int .u8 0) ∧ W.frozen? ⟨w.heap.size + 1 + 1, 3, none⟩ = false ∧ W.cell? ⟨g7, 0, none⟩ = some (.int .u8 cr) ∧ W.frozen? ⟨g7, 0, none⟩ = false ∧ W.cell? ⟨g7, 1, none⟩ = some (.int .u8 cg) ∧ W.frozen? ⟨g7, 1, none⟩ = false ∧ W.cell? ⟨g7, 2, none⟩ = some (.int .u8 cb) ∧ W.frozen? ⟨g7, 2, none⟩ = false ∧ W.cell? ⟨g7, 3, none⟩ = some (.int .u8 a) ∧ W.frozen? ⟨g7, 3, none⟩ = false ∧ W.cell? ⟨g8, 0, none⟩ = some (.int .u8 cs) ∧ W.frozen? ⟨g8, 0, none⟩ = false ∧ W.cell? ⟨g8, 1, none⟩ = some (.int .u8 ct) ∧ W.frozen? ⟨g8, 1, none⟩ = false ∧ W.cell? ⟨g8, 2, none⟩ = some (.int .u8 cu) ∧ W.frozen? ⟨g8, 2, none⟩ = false ∧ W.cell? ⟨g8, 3, none⟩ = some (.int .u8 d) ∧ W.frozen? ⟨g8, 3, none⟩ = false ∧ Below w.heap.size w W ∧ w.heap.size + 1 + 1 + 1 ≤ W.heap.size) 49 73 [.val (.pointer (some ⟨g7, 0, none⟩)), .val (.int .u8 cr), .val (.int .i64 cr), .val (.int .i64 f1), .val (.int .i64 m0), .val (.pointer (some ⟨g8, 0, none⟩)), .val (.int .u8 cs), .val (.int .i64 cs), .val (.int .i64 f2), .val (.int .i64 n0), .val (.int .i64 sm0), .call 28 #[.int .i64 sm0] (.int .u8 l0), .val (.pointer (some ⟨g7, 1, none⟩)), .val (.int .u8 cg), .val (.int .i64 cg), .val (.int .i64 f1), .val (.int .i64 m1), .val (.pointer (some ⟨g8, 1, none⟩)), .val (.int .u8 ct), .val (.int .i64 ct), .val (.int .i64 f2), .val (.int .i64 n1), .val (.int .i64 sm1), .call 28 #[.int .i64 sm1] (.int .u8 l1), .val (.pointer (some ⟨g7, 2, none⟩)), .val (.int .u8 cb), .val (.int .i64 cb), .val (.int .i64 f1), .val (.int .i64 m2), .val (.pointer (some ⟨g8, 2, none⟩)), .val (.int .u8 cu), .val (.int .i64 cu), .val (.int .i64 f2), .val (.int .i64 n2), .val (.int .i64 sm2), .call 28 #[.int .i64 sm2] (.int .u8 l2), .val (.pointer (some ⟨g7, 3, none⟩)), .val (.int .u8 a), .val (.int .i64 a), .val (.int .i64 f1), .val (.int .i64 m3), .val (.pointer (some ⟨g8, 3, none⟩)), .val (.int .u8 d), .val (.int .i64 d), .val (.int .i64 f2), .val (.int .i64 n3), .val (.int .i64 sm3), .call 28 #[.int .i64 sm3] (.int .u8 l3), .val (.agg #[.int .u8 l0, .int .u8 l1, .int .u8 l2, .int .u8 l3])] (by kernel_rfl) (by kernel_rfl) rfl (by kernel_rfl) (by rintro w1 w2 ⟨h0, h1, h2, h3, h4, h5, h6, h7, h8, h9, h10, h11, h12, h13, h14, h15, h16, h17, h18, h19, h20, h21, h22, h23, h24, h25, h26, h27, h28, h29, h30, h31, h32, h33, h34, h35, h36, h37, h38, h39⟩ hb; exact ⟨bcs hb h0, bfs hb h0 h1, bcs hb h2, bfs hb h2 h3, bcs hb h4, bfs hb h4 h5, bcs hb h6, bfs hb h6 h7, bcs hb h8, bfs hb h8 h9, bcs hb h10, bfs hb h10 h11, bcs hb h12, bfs hb h12 h13, bcs hb h14, bfs hb h14 h15, bcs hb h16, bfs hb h16 h17, bcs hb h18, bfs hb h18 h19, bcs hb h20, bfs hb h20 h21, bcs hb h22, bfs hb h22 h23, bcs hb h24, bfs hb h24 h25, bcs hb h26, bfs hb h26 h27, bcs hb h28, bfs hb h28 h29, bcs hb h30, bfs hb h30 h31, bcs hb h32, bfs hb h32 h33, bcs hb h34, bfs hb h34 h35, bcs hb h36, bfs hb h36 h37, bcs hb h38, bfs hb h38 h39⟩) ⟨by first | with_reducible assumption | go_simp, by first | with_reducible assumption | go_simp, by first | with_reducible assumption | go_simp, by first | with_reducible assumption | go_simp, by first | with_reducible assumption | go_simp, by first | with_reducible assumption | go_simp, by first | with_reducible assumption | go_simp, by first | with_reducible assumption | go_simp, by first | with_reducible assumption | go_simp, by first | with_reducible assumption | go_simp, by first | with_reducible assumption | go_simp, by first | with_reducible assumption | go_simp, by first | with_reducible assumption | go_simp, by first | with_reducible assumption | go_simp, by first | with_reducible assumption | go_simp, by first | with_reducible assumption | go_simp, by first | with_reducible assumption | go_simp, by first | with_reducible assumption | go_simp, by first | with_reducible assumption | go_simp, by first | with_reducible assumption | go_simp, by first | with_reducible assumption | go_simp, by first | with_reducible assumption | go_simp, by first | with_reducible assumption | go_simp, by first | with_reducible assumption | go_simp, by first | with_reducible assumption | go_simp, by first | with_reducible assumption | go_simp, by first | with_reducible assumption | go_simp, by first | with_reducible assumption | go_simp, by first | with_reducible assumption | go_simp, by first | with_reducible assumption | go_simp, by first | with_reducible assumption | go_simp, by first | with_reducible assumption | go_simp, by first | with_reducible assumption | go_simp, by first | with_reducible assumption | go_simp, by first | with_reducible assumption | go_simp, by first | with_reducible assumption | go_simp, by first | with_reducible assumption | go_simp, by first | with_reducible assumption | go_simp, by first | with_reducible assumption | go_simp, by first | with_reducible assumption | go_simp, by repeat (first | with_reducible exact Below.refl _ _ | with_reducible exact B2 | with_reducible apply below_drewN | with_reducible apply Below.drew | (with_reducible refine Below.alloc ?_ (by first | (simp; done) | (simp; omega) | omega) _) | (with_reducible refine Below.setCell ?_ (by first | (simp; done) | (simp; omega) | omega) _)), by first | with_reducible assumption | (simp; done) | (simp; omega)⟩ ?_ ?_
  · rintro W ⟨k3_b4_0, g3_b4_0, k3_b4_1, g3_b4_1, k3_b4_2, g3_b4_2, k3_b4_3, g3_b4_3, k3_b5_0, g3_b5_0, k3_b5_1, g3_b5_1, k3_b5_2, g3_b5_2, k3_b5_3, g3_b5_3, k3_b6_0, g3_b6_0, k3_b6_1, g3_b6_1, k3_b6_2, g3_b6_2, k3_b6_3, g3_b6_3, k3_g7_0, g3_g7_0, k3_g7_1, g3_g7_1, k3_g7_2, g3_g7_2, k3_g7_3, g3_g7_3, k3_g8_0, g3_g8_0, k3_g8_1, g3_g8_1, k3_g8_2, g3_g8_2, k3_g8_3, g3_g8_3, B3, z3⟩; exact ⟨k3_b4_0, g3_b4_0, k3_b4_1, g3_b4_1, k3_b4_2, g3_b4_2, k3_b4_3, g3_b4_3, k3_b5_0, g3_b5_0, k3_b5_1, g3_b5_1, k3_b5_2, g3_b5_2, k3_b5_3, g3_b5_3, k3_b6_0, g3_b6_0, k3_b6_1, g3_b6_1, k3_b6_2, g3_b6_2, k3_b6_3, g3_b6_3, k3_g7_0, g3_g7_0, k3_g7_1, g3_g7_1, k3_g7_2, g3_g7_2, k3_g7_3, g3_g7_3, k3_g8_0, g3_g8_0, k3_g8_1, g3_g8_1, k3_g8_2, g3_g8_2, k3_g8_3, g3_g8_3⟩
  (try clear B2)
  (try clear z2)
  (try clear k2_b4_0)
  (try clear g2_b4_0)
  (try clear k2_b4_1)
  (try clear g2_b4_1)
  (try clear k2_b4_2)
  (try clear g2_b4_2)
  (try clear k2_b4_3)
  (try clear g2_b4_3)
  (try clear k2_b5_0)
  (try clear g2_b5_0)
  (try clear k2_b5_1)
  (try clear g2_b5_1)
  (try clear k2_b5_2)
  (try clear g2_b5_2)
  (try clear k2_b5_3)
  (try clear g2_b5_3)
  (try clear k2_b6_0)
  (try clear g2_b6_0)
  (try clear k2_b6_1)
  (try clear g2_b6_1)
  (try clear k2_b6_2)
  (try clear g2_b6_2)
  (try clear k2_b6_3)
  (try clear g2_b6_3)
  (try clear k2_g7_0)
  (try clear g2_g7_0)
  (try clear k2_g7_1)
  (try clear g2_g7_1)
  (try clear k2_g7_2)
  (try clear g2_g7_2)
  (try clear k2_g7_3)
  (try clear g2_g7_3)
  (try clear k2_g8_0)
  (try clear g2_g8_0)
  (try clear k2_g8_1)
  (try clear g2_g8_1)
  (try clear k2_g8_2)
  (try clear g2_g8_2)
  (try clear k2_g8_3)
  (try clear g2_g8_3)
  (try clear q2_b4)
  (try clear x2_b4)
  (try clear y2_b4)
  (try clear q2_b5)
  (try clear x2_b5)
  (try clear y2_b5)
  (try clear q2_b6)
  (try clear x2_b6)
  (try clear y2_b6)
  (try clear q2_g7)
  (try clear x2_g7)
  (try clear y2_g7)
  (try clear q2_g8)
  (try clear x2_g8)
  (try clear y2_g8)
  rintro w3 ⟨k3_b4_0, g3_b4_0, k3_b4_1, g3_b4_1, k3_b4_2, g3_b4_2, k3_b4_3, g3_b4_3, k3_b5_0, g3_b5_0, k3_b5_1, g3_b5_1, k3_b5_2, g3_b5_2, k3_b5_3, g3_b5_3, k3_b6_0, g3_b6_0, k3_b6_1, g3_b6_1, k3_b6_2, g3_b6_2, k3_b6_3, g3_b6_3, k3_g7_0, g3_g7_0, k3_g7_1, g3_g7_1, k3_g7_2, g3_g7_2, k3_g7_3, g3_g7_3, k3_g8_0, g3_g8_0, k3_g8_1, g3_g8_1, k3_g8_2, g3_g8_2, k3_g8_3, g3_g8_3, B3, z3⟩ gg
  simp only [List.take_succ_cons, List.take_zero, List.drop_succ_cons, List.drop_zero, List.cons_append, List.nil_append, List.append_nil]
  refine obe_val (by rfl) ?_ ?_
  · clear k3_b4_0 g3_b4_0 k3_b4_1 g3_b4_1 k3_b4_2 g3_b4_2 k3_b4_3 g3_b4_3 k3_b5_0 g3_b5_0 k3_b5_1 g3_b5_1 k3_b5_2 g3_b5_2 k3_b5_3 g3_b5_3 k3_b6_0 g3_b6_0 k3_b6_1 g3_b6_1 k3_b6_2 g3_b6_2 k3_b6_3 g3_b6_3 k3_g7_0 g3_g7_0 k3_g7_1 g3_g7_1 k3_g7_2 g3_g7_2 k3_g7_3 g3_g7_3 k3_g8_0 g3_g8_0 k3_g8_1 g3_g8_1 k3_g8_2 g3_g8_2 k3_g8_3 g3_g8_3 B3 z3; intro f hf; have u7 : f 7 = (.pointer (some ⟨g7, 0, none⟩)) := (by rw [← hf]; rfl); clear hf; rintro w' ⟨h0, h1, h2, h3, h4, h5, h6, h7, h8, h9, h10, h11, h12, h13, h14, h15, h16, h17, h18, h19, h20, h21, h22, h23, h24, h25, h26, h27, h28, h29, h30, h31, h32, h33, h34, h35, h36, h37, h38, h39⟩; go_simp; try exact IntWalk.i64_in _ (by omega)
  refine obe_val (by rfl) ?_ ?_
  · clear k3_b4_0 g3_b4_0 k3_b4_1 g3_b4_1 k3_b4_2 g3_b4_2 k3_b4_3 g3_b4_3 k3_b5_0 g3_b5_0 k3_b5_1 g3_b5_1 k3_b5_2 g3_b5_2 k3_b5_3 g3_b5_3 k3_b6_0 g3_b6_0 k3_b6_1 g3_b6_1 k3_b6_2 g3_b6_2 k3_b6_3 g3_b6_3 k3_g7_0 g3_g7_0 k3_g7_1 g3_g7_1 k3_g7_2 g3_g7_2 k3_g7_3 g3_g7_3 k3_g8_0 g3_g8_0 k3_g8_1 g3_g8_1 k3_g8_2 g3_g8_2 k3_g8_3 g3_g8_3 B3 z3; intro f hf; have u24 : f 24 = (.pointer (some ⟨g7, 0, none⟩)) := (by rw [← hf]; rfl); clear hf; rintro w' ⟨h0, h1, h2, h3, h4, h5, h6, h7, h8, h9, h10, h11, h12, h13, h14, h15, h16, h17, h18, h19, h20, h21, h22, h23, h24, h25, h26, h27, h28, h29, h30, h31, h32, h33, h34, h35, h36, h37, h38, h39⟩; go_simp; try exact IntWalk.i64_in _ (by omega)
  refine obe_val (by rfl) ?_ ?_
  · clear k3_b4_0 g3_b4_0 k3_b4_1 g3_b4_1 k3_b4_2 g3_b4_2 k3_b4_3 g3_b4_3 k3_b5_0 g3_b5_0 k3_b5_1 g3_b5_1 k3_b5_2 g3_b5_2 k3_b5_3 g3_b5_3 k3_b6_0 g3_b6_0 k3_b6_1 g3_b6_1 k3_b6_2 g3_b6_2 k3_b6_3 g3_b6_3 k3_g7_0 g3_g7_0 k3_g7_1 g3_g7_1 k3_g7_2 g3_g7_2 k3_g7_3 g3_g7_3 k3_g8_0 g3_g8_0 k3_g8_1 g3_g8_1 k3_g8_2 g3_g8_2 k3_g8_3 g3_g8_3 B3 z3; intro f hf; have u25 : f 25 = (.int .u8 cr) := (by rw [← hf]; rfl); clear hf; rintro w' ⟨h0, h1, h2, h3, h4, h5, h6, h7, h8, h9, h10, h11, h12, h13, h14, h15, h16, h17, h18, h19, h20, h21, h22, h23, h24, h25, h26, h27, h28, h29, h30, h31, h32, h33, h34, h35, h36, h37, h38, h39⟩; go_simp; try exact IntWalk.i64_in _ (by omega)
  refine obe_val (by rfl) ?_ ?_
  · clear k3_b4_0 g3_b4_0 k3_b4_1 g3_b4_1 k3_b4_2 g3_b4_2 k3_b4_3 g3_b4_3 k3_b5_0 g3_b5_0 k3_b5_1 g3_b5_1 k3_b5_2 g3_b5_2 k3_b5_3 g3_b5_3 k3_b6_0 g3_b6_0 k3_b6_1 g3_b6_1 k3_b6_2 g3_b6_2 k3_b6_3 g3_b6_3 k3_g7_0 g3_g7_0 k3_g7_1 g3_g7_1 k3_g7_2 g3_g7_2 k3_g7_3 g3_g7_3 k3_g8_0 g3_g8_0 k3_g8_1 g3_g8_1 k3_g8_2 g3_g8_2 k3_g8_3 g3_g8_3 B3 z3; intro f hf; have u9 : f 9 = (.int .i64 f1) := (by rw [← hf]; rfl); clear hf; rintro w' ⟨h0, h1, h2, h3, h4, h5, h6, h7, h8, h9, h10, h11, h12, h13, h14, h15, h16, h17, h18, h19, h20, h21, h22, h23, h24, h25, h26, h27, h28, h29, h30, h31, h32, h33, h34, h35, h36, h37, h38, h39⟩; go_simp; try exact IntWalk.i64_in _ (by omega)
  refine obe_val (by rfl) ?_ ?_
  · clear k3_b4_0 g3_b4_0 k3_b4_1 g3_b4_1 k3_b4_2 g3_b4_2 k3_b4_3 g3_b4_3 k3_b5_0 g3_b5_0 k3_b5_1 g3_b5_1 k3_b5_2 g3_b5_2 k3_b5_3 g3_b5_3 k3_b6_0 g3_b6_0 k3_b6_1 g3_b6_1 k3_b6_2 g3_b6_2 k3_b6_3 g3_b6_3 k3_g7_0 g3_g7_0 k3_g7_1 g3_g7_1 k3_g7_2 g3_g7_2 k3_g7_3 g3_g7_3 k3_g8_0 g3_g8_0 k3_g8_1 g3_g8_1 k3_g8_2 g3_g8_2 k3_g8_3 g3_g8_3 B3 z3; intro f hf; have u26 : f 26 = (.int .i64 cr) := (by rw [← hf]; rfl); have u27 : f 27 = (.int .i64 f1) := (by rw [← hf]; rfl); clear hf; rintro w' ⟨h0, h1, h2, h3, h4, h5, h6, h7, h8, h9, h10, h11, h12, h13, h14, h15, h16, h17, h18, h19, h20, h21, h22, h23, h24, h25, h26, h27, h28, h29, h30, h31, h32, h33, h34, h35, h36, h37, h38, h39⟩; go_simp; try exact IntWalk.i64_in _ (by omega)
  refine obe_val (by rfl) ?_ ?_
  · clear k3_b4_0 g3_b4_0 k3_b4_1 g3_b4_1 k3_b4_2 g3_b4_2 k3_b4_3 g3_b4_3 k3_b5_0 g3_b5_0 k3_b5_1 g3_b5_1 k3_b5_2 g3_b5_2 k3_b5_3 g3_b5_3 k3_b6_0 g3_b6_0 k3_b6_1 g3_b6_1 k3_b6_2 g3_b6_2 k3_b6_3 g3_b6_3 k3_g7_0 g3_g7_0 k3_g7_1 g3_g7_1 k3_g7_2 g3_g7_2 k3_g7_3 g3_g7_3 k3_g8_0 g3_g8_0 k3_g8_1 g3_g8_1 k3_g8_2 g3_g8_2 k3_g8_3 g3_g8_3 B3 z3; intro f hf; have u8 : f 8 = (.pointer (some ⟨g8, 0, none⟩)) := (by rw [← hf]; rfl); clear hf; rintro w' ⟨h0, h1, h2, h3, h4, h5, h6, h7, h8, h9, h10, h11, h12, h13, h14, h15, h16, h17, h18, h19, h20, h21, h22, h23, h24, h25, h26, h27, h28, h29, h30, h31, h32, h33, h34, h35, h36, h37, h38, h39⟩; go_simp; try exact IntWalk.i64_in _ (by omega)
  refine obe_val (by rfl) ?_ ?_
  · clear k3_b4_0 g3_b4_0 k3_b4_1 g3_b4_1 k3_b4_2 g3_b4_2 k3_b4_3 g3_b4_3 k3_b5_0 g3_b5_0 k3_b5_1 g3_b5_1 k3_b5_2 g3_b5_2 k3_b5_3 g3_b5_3 k3_b6_0 g3_b6_0 k3_b6_1 g3_b6_1 k3_b6_2 g3_b6_2 k3_b6_3 g3_b6_3 k3_g7_0 g3_g7_0 k3_g7_1 g3_g7_1 k3_g7_2 g3_g7_2 k3_g7_3 g3_g7_3 k3_g8_0 g3_g8_0 k3_g8_1 g3_g8_1 k3_g8_2 g3_g8_2 k3_g8_3 g3_g8_3 B3 z3; intro f hf; have u29 : f 29 = (.pointer (some ⟨g8, 0, none⟩)) := (by rw [← hf]; rfl); clear hf; rintro w' ⟨h0, h1, h2, h3, h4, h5, h6, h7, h8, h9, h10, h11, h12, h13, h14, h15, h16, h17, h18, h19, h20, h21, h22, h23, h24, h25, h26, h27, h28, h29, h30, h31, h32, h33, h34, h35, h36, h37, h38, h39⟩; go_simp; try exact IntWalk.i64_in _ (by omega)
  refine obe_val (by rfl) ?_ ?_
  · clear k3_b4_0 g3_b4_0 k3_b4_1 g3_b4_1 k3_b4_2 g3_b4_2 k3_b4_3 g3_b4_3 k3_b5_0 g3_b5_0 k3_b5_1 g3_b5_1 k3_b5_2 g3_b5_2 k3_b5_3 g3_b5_3 k3_b6_0 g3_b6_0 k3_b6_1 g3_b6_1 k3_b6_2 g3_b6_2 k3_b6_3 g3_b6_3 k3_g7_0 g3_g7_0 k3_g7_1 g3_g7_1 k3_g7_2 g3_g7_2 k3_g7_3 g3_g7_3 k3_g8_0 g3_g8_0 k3_g8_1 g3_g8_1 k3_g8_2 g3_g8_2 k3_g8_3 g3_g8_3 B3 z3; intro f hf; have u30 : f 30 = (.int .u8 cs) := (by rw [← hf]; rfl); clear hf; rintro w' ⟨h0, h1, h2, h3, h4, h5, h6, h7, h8, h9, h10, h11, h12, h13, h14, h15, h16, h17, h18, h19, h20, h21, h22, h23, h24, h25, h26, h27, h28, h29, h30, h31, h32, h33, h34, h35, h36, h37, h38, h39⟩; go_simp; try exact IntWalk.i64_in _ (by omega)
  refine obe_val (by rfl) ?_ ?_
  · clear k3_b4_0 g3_b4_0 k3_b4_1 g3_b4_1 k3_b4_2 g3_b4_2 k3_b4_3 g3_b4_3 k3_b5_0 g3_b5_0 k3_b5_1 g3_b5_1 k3_b5_2 g3_b5_2 k3_b5_3 g3_b5_3 k3_b6_0 g3_b6_0 k3_b6_1 g3_b6_1 k3_b6_2 g3_b6_2 k3_b6_3 g3_b6_3 k3_g7_0 g3_g7_0 k3_g7_1 g3_g7_1 k3_g7_2 g3_g7_2 k3_g7_3 g3_g7_3 k3_g8_0 g3_g8_0 k3_g8_1 g3_g8_1 k3_g8_2 g3_g8_2 k3_g8_3 g3_g8_3 B3 z3; intro f hf; have u10 : f 10 = (.int .i64 f2) := (by rw [← hf]; rfl); clear hf; rintro w' ⟨h0, h1, h2, h3, h4, h5, h6, h7, h8, h9, h10, h11, h12, h13, h14, h15, h16, h17, h18, h19, h20, h21, h22, h23, h24, h25, h26, h27, h28, h29, h30, h31, h32, h33, h34, h35, h36, h37, h38, h39⟩; go_simp; try exact IntWalk.i64_in _ (by omega)
  refine obe_val (by rfl) ?_ ?_
  · clear k3_b4_0 g3_b4_0 k3_b4_1 g3_b4_1 k3_b4_2 g3_b4_2 k3_b4_3 g3_b4_3 k3_b5_0 g3_b5_0 k3_b5_1 g3_b5_1 k3_b5_2 g3_b5_2 k3_b5_3 g3_b5_3 k3_b6_0 g3_b6_0 k3_b6_1 g3_b6_1 k3_b6_2 g3_b6_2 k3_b6_3 g3_b6_3 k3_g7_0 g3_g7_0 k3_g7_1 g3_g7_1 k3_g7_2 g3_g7_2 k3_g7_3 g3_g7_3 k3_g8_0 g3_g8_0 k3_g8_1 g3_g8_1 k3_g8_2 g3_g8_2 k3_g8_3 g3_g8_3 B3 z3; intro f hf; have u31 : f 31 = (.int .i64 cs) := (by rw [← hf]; rfl); have u32 : f 32 = (.int .i64 f2) := (by rw [← hf]; rfl); clear hf; rintro w' ⟨h0, h1, h2, h3, h4, h5, h6, h7, h8, h9, h10, h11, h12, h13, h14, h15, h16, h17, h18, h19, h20, h21, h22, h23, h24, h25, h26, h27, h28, h29, h30, h31, h32, h33, h34, h35, h36, h37, h38, h39⟩; go_simp; try exact IntWalk.i64_in _ (by omega)
  refine obe_val (by rfl) ?_ ?_
  · clear k3_b4_0 g3_b4_0 k3_b4_1 g3_b4_1 k3_b4_2 g3_b4_2 k3_b4_3 g3_b4_3 k3_b5_0 g3_b5_0 k3_b5_1 g3_b5_1 k3_b5_2 g3_b5_2 k3_b5_3 g3_b5_3 k3_b6_0 g3_b6_0 k3_b6_1 g3_b6_1 k3_b6_2 g3_b6_2 k3_b6_3 g3_b6_3 k3_g7_0 g3_g7_0 k3_g7_1 g3_g7_1 k3_g7_2 g3_g7_2 k3_g7_3 g3_g7_3 k3_g8_0 g3_g8_0 k3_g8_1 g3_g8_1 k3_g8_2 g3_g8_2 k3_g8_3 g3_g8_3 B3 z3; intro f hf; have u28 : f 28 = (.int .i64 m0) := (by rw [← hf]; rfl); have u33 : f 33 = (.int .i64 n0) := (by rw [← hf]; rfl); clear hf; rintro w' ⟨h0, h1, h2, h3, h4, h5, h6, h7, h8, h9, h10, h11, h12, h13, h14, h15, h16, h17, h18, h19, h20, h21, h22, h23, h24, h25, h26, h27, h28, h29, h30, h31, h32, h33, h34, h35, h36, h37, h38, h39⟩; go_simp; try exact IntWalk.i64_in _ (by omega)
  refine obe_call (by rfl) ?_ ?_ ?_
  · clear k3_b4_0 g3_b4_0 k3_b4_1 g3_b4_1 k3_b4_2 g3_b4_2 k3_b4_3 g3_b4_3 k3_b5_0 g3_b5_0 k3_b5_1 g3_b5_1 k3_b5_2 g3_b5_2 k3_b5_3 g3_b5_3 k3_b6_0 g3_b6_0 k3_b6_1 g3_b6_1 k3_b6_2 g3_b6_2 k3_b6_3 g3_b6_3 k3_g7_0 g3_g7_0 k3_g7_1 g3_g7_1 k3_g7_2 g3_g7_2 k3_g7_3 g3_g7_3 k3_g8_0 g3_g8_0 k3_g8_1 g3_g8_1 k3_g8_2 g3_g8_2 k3_g8_3 g3_g8_3 B3 z3; intro f hf; have u34 : f 34 = (.int .i64 sm0) := (by rw [← hf]; rfl); clear hf; intro w' _; simp only [execOp, resolve, invoke, rhoF_tmp, rhoF_func, rhoF_const, u34, List.map_toArray, List.map_cons, List.map_nil]; go_simp
  · clear k3_b4_0 g3_b4_0 k3_b4_1 g3_b4_1 k3_b4_2 g3_b4_2 k3_b4_3 g3_b4_3 k3_b5_0 g3_b5_0 k3_b5_1 g3_b5_1 k3_b5_2 g3_b5_2 k3_b5_3 g3_b5_3 k3_b6_0 g3_b6_0 k3_b6_1 g3_b6_1 k3_b6_2 g3_b6_2 k3_b6_3 g3_b6_3 k3_g7_0 g3_g7_0 k3_g7_1 g3_g7_1 k3_g7_2 g3_g7_2 k3_g7_3 g3_g7_3 k3_g8_0 g3_g8_0 k3_g8_1 g3_g8_1 k3_g8_2 g3_g8_2 k3_g8_3 g3_g8_3 B3 z3; rintro w' ⟨h0, h1, h2, h3, h4, h5, h6, h7, h8, h9, h10, h11, h12, h13, h14, h15, h16, h17, h18, h19, h20, h21, h22, h23, h24, h25, h26, h27, h28, h29, h30, h31, h32, h33, h34, h35, h36, h37, h38, h39⟩; exact (cd0 _).mono (by rintro e w2 ⟨rfl, rfl⟩; exact ⟨rfl, Below.refl _ _⟩)
  refine obe_val (by rfl) ?_ ?_
  · clear k3_b4_0 g3_b4_0 k3_b4_1 g3_b4_1 k3_b4_2 g3_b4_2 k3_b4_3 g3_b4_3 k3_b5_0 g3_b5_0 k3_b5_1 g3_b5_1 k3_b5_2 g3_b5_2 k3_b5_3 g3_b5_3 k3_b6_0 g3_b6_0 k3_b6_1 g3_b6_1 k3_b6_2 g3_b6_2 k3_b6_3 g3_b6_3 k3_g7_0 g3_g7_0 k3_g7_1 g3_g7_1 k3_g7_2 g3_g7_2 k3_g7_3 g3_g7_3 k3_g8_0 g3_g8_0 k3_g8_1 g3_g8_1 k3_g8_2 g3_g8_2 k3_g8_3 g3_g8_3 B3 z3; intro f hf; have u7 : f 7 = (.pointer (some ⟨g7, 0, none⟩)) := (by rw [← hf]; rfl); clear hf; rintro w' ⟨h0, h1, h2, h3, h4, h5, h6, h7, h8, h9, h10, h11, h12, h13, h14, h15, h16, h17, h18, h19, h20, h21, h22, h23, h24, h25, h26, h27, h28, h29, h30, h31, h32, h33, h34, h35, h36, h37, h38, h39⟩; go_simp; try exact IntWalk.i64_in _ (by omega)
  refine obe_val (by rfl) ?_ ?_
  · clear k3_b4_0 g3_b4_0 k3_b4_1 g3_b4_1 k3_b4_2 g3_b4_2 k3_b4_3 g3_b4_3 k3_b5_0 g3_b5_0 k3_b5_1 g3_b5_1 k3_b5_2 g3_b5_2 k3_b5_3 g3_b5_3 k3_b6_0 g3_b6_0 k3_b6_1 g3_b6_1 k3_b6_2 g3_b6_2 k3_b6_3 g3_b6_3 k3_g7_0 g3_g7_0 k3_g7_1 g3_g7_1 k3_g7_2 g3_g7_2 k3_g7_3 g3_g7_3 k3_g8_0 g3_g8_0 k3_g8_1 g3_g8_1 k3_g8_2 g3_g8_2 k3_g8_3 g3_g8_3 B3 z3; intro f hf; have u36 : f 36 = (.pointer (some ⟨g7, 1, none⟩)) := (by rw [← hf]; rfl); clear hf; rintro w' ⟨h0, h1, h2, h3, h4, h5, h6, h7, h8, h9, h10, h11, h12, h13, h14, h15, h16, h17, h18, h19, h20, h21, h22, h23, h24, h25, h26, h27, h28, h29, h30, h31, h32, h33, h34, h35, h36, h37, h38, h39⟩; go_simp; try exact IntWalk.i64_in _ (by omega)
  refine obe_val (by rfl) ?_ ?_
  · clear k3_b4_0 g3_b4_0 k3_b4_1 g3_b4_1 k3_b4_2 g3_b4_2 k3_b4_3 g3_b4_3 k3_b5_0 g3_b5_0 k3_b5_1 g3_b5_1 k3_b5_2 g3_b5_2 k3_b5_3 g3_b5_3 k3_b6_0 g3_b6_0 k3_b6_1 g3_b6_1 k3_b6_2 g3_b6_2 k3_b6_3 g3_b6_3 k3_g7_0 g3_g7_0 k3_g7_1 g3_g7_1 k3_g7_2 g3_g7_2 k3_g7_3 g3_g7_3 k3_g8_0 g3_g8_0 k3_g8_1 g3_g8_1 k3_g8_2 g3_g8_2 k3_g8_3 g3_g8_3 B3 z3; intro f hf; have u37 : f 37 = (.int .u8 cg) := (by rw [← hf]; rfl); clear hf; rintro w' ⟨h0, h1, h2, h3, h4, h5, h6, h7, h8, h9, h10, h11, h12, h13, h14, h15, h16, h17, h18, h19, h20, h21, h22, h23, h24, h25, h26, h27, h28, h29, h30, h31, h32, h33, h34, h35, h36, h37, h38, h39⟩; go_simp; try exact IntWalk.i64_in _ (by omega)
  refine obe_val (by rfl) ?_ ?_
  · clear k3_b4_0 g3_b4_0 k3_b4_1 g3_b4_1 k3_b4_2 g3_b4_2 k3_b4_3 g3_b4_3 k3_b5_0 g3_b5_0 k3_b5_1 g3_b5_1 k3_b5_2 g3_b5_2 k3_b5_3 g3_b5_3 k3_b6_0 g3_b6_0 k3_b6_1 g3_b6_1 k3_b6_2 g3_b6_2 k3_b6_3 g3_b6_3 k3_g7_0 g3_g7_0 k3_g7_1 g3_g7_1 k3_g7_2 g3_g7_2 k3_g7_3 g3_g7_3 k3_g8_0 g3_g8_0 k3_g8_1 g3_g8_1 k3_g8_2 g3_g8_2 k3_g8_3 g3_g8_3 B3 z3; intro f hf; have u9 : f 9 = (.int .i64 f1) := (by rw [← hf]; rfl); clear hf; rintro w' ⟨h0, h1, h2, h3, h4, h5, h6, h7, h8, h9, h10, h11, h12, h13, h14, h15, h16, h17, h18, h19, h20, h21, h22, h23, h24, h25, h26, h27, h28, h29, h30, h31, h32, h33, h34, h35, h36, h37, h38, h39⟩; go_simp; try exact IntWalk.i64_in _ (by omega)
  refine obe_val (by rfl) ?_ ?_
  · clear k3_b4_0 g3_b4_0 k3_b4_1 g3_b4_1 k3_b4_2 g3_b4_2 k3_b4_3 g3_b4_3 k3_b5_0 g3_b5_0 k3_b5_1 g3_b5_1 k3_b5_2 g3_b5_2 k3_b5_3 g3_b5_3 k3_b6_0 g3_b6_0 k3_b6_1 g3_b6_1 k3_b6_2 g3_b6_2 k3_b6_3 g3_b6_3 k3_g7_0 g3_g7_0 k3_g7_1 g3_g7_1 k3_g7_2 g3_g7_2 k3_g7_3 g3_g7_3 k3_g8_0 g3_g8_0 k3_g8_1 g3_g8_1 k3_g8_2 g3_g8_2 k3_g8_3 g3_g8_3 B3 z3; intro f hf; have u38 : f 38 = (.int .i64 cg) := (by rw [← hf]; rfl); have u39 : f 39 = (.int .i64 f1) := (by rw [← hf]; rfl); clear hf; rintro w' ⟨h0, h1, h2, h3, h4, h5, h6, h7, h8, h9, h10, h11, h12, h13, h14, h15, h16, h17, h18, h19, h20, h21, h22, h23, h24, h25, h26, h27, h28, h29, h30, h31, h32, h33, h34, h35, h36, h37, h38, h39⟩; go_simp; try exact IntWalk.i64_in _ (by omega)
  refine obe_val (by rfl) ?_ ?_
  · clear k3_b4_0 g3_b4_0 k3_b4_1 g3_b4_1 k3_b4_2 g3_b4_2 k3_b4_3 g3_b4_3 k3_b5_0 g3_b5_0 k3_b5_1 g3_b5_1 k3_b5_2 g3_b5_2 k3_b5_3 g3_b5_3 k3_b6_0 g3_b6_0 k3_b6_1 g3_b6_1 k3_b6_2 g3_b6_2 k3_b6_3 g3_b6_3 k3_g7_0 g3_g7_0 k3_g7_1 g3_g7_1 k3_g7_2 g3_g7_2 k3_g7_3 g3_g7_3 k3_g8_0 g3_g8_0 k3_g8_1 g3_g8_1 k3_g8_2 g3_g8_2 k3_g8_3 g3_g8_3 B3 z3; intro f hf; have u8 : f 8 = (.pointer (some ⟨g8, 0, none⟩)) := (by rw [← hf]; rfl); clear hf; rintro w' ⟨h0, h1, h2, h3, h4, h5, h6, h7, h8, h9, h10, h11, h12, h13, h14, h15, h16, h17, h18, h19, h20, h21, h22, h23, h24, h25, h26, h27, h28, h29, h30, h31, h32, h33, h34, h35, h36, h37, h38, h39⟩; go_simp; try exact IntWalk.i64_in _ (by omega)
  refine obe_val (by rfl) ?_ ?_
  · clear k3_b4_0 g3_b4_0 k3_b4_1 g3_b4_1 k3_b4_2 g3_b4_2 k3_b4_3 g3_b4_3 k3_b5_0 g3_b5_0 k3_b5_1 g3_b5_1 k3_b5_2 g3_b5_2 k3_b5_3 g3_b5_3 k3_b6_0 g3_b6_0 k3_b6_1 g3_b6_1 k3_b6_2 g3_b6_2 k3_b6_3 g3_b6_3 k3_g7_0 g3_g7_0 k3_g7_1 g3_g7_1 k3_g7_2 g3_g7_2 k3_g7_3 g3_g7_3 k3_g8_0 g3_g8_0 k3_g8_1 g3_g8_1 k3_g8_2 g3_g8_2 k3_g8_3 g3_g8_3 B3 z3; intro f hf; have u41 : f 41 = (.pointer (some ⟨g8, 1, none⟩)) := (by rw [← hf]; rfl); clear hf; rintro w' ⟨h0, h1, h2, h3, h4, h5, h6, h7, h8, h9, h10, h11, h12, h13, h14, h15, h16, h17, h18, h19, h20, h21, h22, h23, h24, h25, h26, h27, h28, h29, h30, h31, h32, h33, h34, h35, h36, h37, h38, h39⟩; go_simp; try exact IntWalk.i64_in _ (by omega)
  refine obe_val (by rfl) ?_ ?_
  · clear k3_b4_0 g3_b4_0 k3_b4_1 g3_b4_1 k3_b4_2 g3_b4_2 k3_b4_3 g3_b4_3 k3_b5_0 g3_b5_0 k3_b5_1 g3_b5_1 k3_b5_2 g3_b5_2 k3_b5_3 g3_b5_3 k3_b6_0 g3_b6_0 k3_b6_1 g3_b6_1 k3_b6_2 g3_b6_2 k3_b6_3 g3_b6_3 k3_g7_0 g3_g7_0 k3_g7_1 g3_g7_1 k3_g7_2 g3_g7_2 k3_g7_3 g3_g7_3 k3_g8_0 g3_g8_0 k3_g8_1 g3_g8_1 k3_g8_2 g3_g8_2 k3_g8_3 g3_g8_3 B3 z3; intro f hf; have u42 : f 42 = (.int .u8 ct) := (by rw [← hf]; rfl); clear hf; rintro w' ⟨h0, h1, h2, h3, h4, h5, h6, h7, h8, h9, h10, h11, h12, h13, h14, h15, h16, h17, h18, h19, h20, h21, h22, h23, h24, h25, h26, h27, h28, h29, h30, h31, h32, h33, h34, h35, h36, h37, h38, h39⟩; go_simp; try exact IntWalk.i64_in _ (by omega)
  refine obe_val (by rfl) ?_ ?_
  · clear k3_b4_0 g3_b4_0 k3_b4_1 g3_b4_1 k3_b4_2 g3_b4_2 k3_b4_3 g3_b4_3 k3_b5_0 g3_b5_0 k3_b5_1 g3_b5_1 k3_b5_2 g3_b5_2 k3_b5_3 g3_b5_3 k3_b6_0 g3_b6_0 k3_b6_1 g3_b6_1 k3_b6_2 g3_b6_2 k3_b6_3 g3_b6_3 k3_g7_0 g3_g7_0 k3_g7_1 g3_g7_1 k3_g7_2 g3_g7_2 k3_g7_3 g3_g7_3 k3_g8_0 g3_g8_0 k3_g8_1 g3_g8_1 k3_g8_2 g3_g8_2 k3_g8_3 g3_g8_3 B3 z3; intro f hf; have u10 : f 10 = (.int .i64 f2) := (by rw [← hf]; rfl); clear hf; rintro w' ⟨h0, h1, h2, h3, h4, h5, h6, h7, h8, h9, h10, h11, h12, h13, h14, h15, h16, h17, h18, h19, h20, h21, h22, h23, h24, h25, h26, h27, h28, h29, h30, h31, h32, h33, h34, h35, h36, h37, h38, h39⟩; go_simp; try exact IntWalk.i64_in _ (by omega)
  refine obe_val (by rfl) ?_ ?_
  · clear k3_b4_0 g3_b4_0 k3_b4_1 g3_b4_1 k3_b4_2 g3_b4_2 k3_b4_3 g3_b4_3 k3_b5_0 g3_b5_0 k3_b5_1 g3_b5_1 k3_b5_2 g3_b5_2 k3_b5_3 g3_b5_3 k3_b6_0 g3_b6_0 k3_b6_1 g3_b6_1 k3_b6_2 g3_b6_2 k3_b6_3 g3_b6_3 k3_g7_0 g3_g7_0 k3_g7_1 g3_g7_1 k3_g7_2 g3_g7_2 k3_g7_3 g3_g7_3 k3_g8_0 g3_g8_0 k3_g8_1 g3_g8_1 k3_g8_2 g3_g8_2 k3_g8_3 g3_g8_3 B3 z3; intro f hf; have u43 : f 43 = (.int .i64 ct) := (by rw [← hf]; rfl); have u44 : f 44 = (.int .i64 f2) := (by rw [← hf]; rfl); clear hf; rintro w' ⟨h0, h1, h2, h3, h4, h5, h6, h7, h8, h9, h10, h11, h12, h13, h14, h15, h16, h17, h18, h19, h20, h21, h22, h23, h24, h25, h26, h27, h28, h29, h30, h31, h32, h33, h34, h35, h36, h37, h38, h39⟩; go_simp; try exact IntWalk.i64_in _ (by omega)
  refine obe_val (by rfl) ?_ ?_
  · clear k3_b4_0 g3_b4_0 k3_b4_1 g3_b4_1 k3_b4_2 g3_b4_2 k3_b4_3 g3_b4_3 k3_b5_0 g3_b5_0 k3_b5_1 g3_b5_1 k3_b5_2 g3_b5_2 k3_b5_3 g3_b5_3 k3_b6_0 g3_b6_0 k3_b6_1 g3_b6_1 k3_b6_2 g3_b6_2 k3_b6_3 g3_b6_3 k3_g7_0 g3_g7_0 k3_g7_1 g3_g7_1 k3_g7_2 g3_g7_2 k3_g7_3 g3_g7_3 k3_g8_0 g3_g8_0 k3_g8_1 g3_g8_1 k3_g8_2 g3_g8_2 k3_g8_3 g3_g8_3 B3 z3; intro f hf; have u40 : f 40 = (.int .i64 m1) := (by rw [← hf]; rfl); have u45 : f 45 = (.int .i64 n1) := (by rw [← hf]; rfl); clear hf; rintro w' ⟨h0, h1, h2, h3, h4, h5, h6, h7, h8, h9, h10, h11, h12, h13, h14, h15, h16, h17, h18, h19, h20, h21, h22, h23, h24, h25, h26, h27, h28, h29, h30, h31, h32, h33, h34, h35, h36, h37, h38, h39⟩; go_simp; try exact IntWalk.i64_in _ (by omega)
  refine obe_call (by rfl) ?_ ?_ ?_
  · clear k3_b4_0 g3_b4_0 k3_b4_1 g3_b4_1 k3_b4_2 g3_b4_2 k3_b4_3 g3_b4_3 k3_b5_0 g3_b5_0 k3_b5_1 g3_b5_1 k3_b5_2 g3_b5_2 k3_b5_3 g3_b5_3 k3_b6_0 g3_b6_0 k3_b6_1 g3_b6_1 k3_b6_2 g3_b6_2 k3_b6_3 g3_b6_3 k3_g7_0 g3_g7_0 k3_g7_1 g3_g7_1 k3_g7_2 g3_g7_2 k3_g7_3 g3_g7_3 k3_g8_0 g3_g8_0 k3_g8_1 g3_g8_1 k3_g8_2 g3_g8_2 k3_g8_3 g3_g8_3 B3 z3; intro f hf; have u46 : f 46 = (.int .i64 sm1) := (by rw [← hf]; rfl); clear hf; intro w' _; simp only [execOp, resolve, invoke, rhoF_tmp, rhoF_func, rhoF_const, u46, List.map_toArray, List.map_cons, List.map_nil]; go_simp
  · clear k3_b4_0 g3_b4_0 k3_b4_1 g3_b4_1 k3_b4_2 g3_b4_2 k3_b4_3 g3_b4_3 k3_b5_0 g3_b5_0 k3_b5_1 g3_b5_1 k3_b5_2 g3_b5_2 k3_b5_3 g3_b5_3 k3_b6_0 g3_b6_0 k3_b6_1 g3_b6_1 k3_b6_2 g3_b6_2 k3_b6_3 g3_b6_3 k3_g7_0 g3_g7_0 k3_g7_1 g3_g7_1 k3_g7_2 g3_g7_2 k3_g7_3 g3_g7_3 k3_g8_0 g3_g8_0 k3_g8_1 g3_g8_1 k3_g8_2 g3_g8_2 k3_g8_3 g3_g8_3 B3 z3; rintro w' ⟨h0, h1, h2, h3, h4, h5, h6, h7, h8, h9, h10, h11, h12, h13, h14, h15, h16, h17, h18, h19, h20, h21, h22, h23, h24, h25, h26, h27, h28, h29, h30, h31, h32, h33, h34, h35, h36, h37, h38, h39⟩; exact (cd1 _).mono (by rintro e w2 ⟨rfl, rfl⟩; exact ⟨rfl, Below.refl _ _⟩)
  refine obe_val (by rfl) ?_ ?_
  · clear k3_b4_0 g3_b4_0 k3_b4_1 g3_b4_1 k3_b4_2 g3_b4_2 k3_b4_3 g3_b4_3 k3_b5_0 g3_b5_0 k3_b5_1 g3_b5_1 k3_b5_2 g3_b5_2 k3_b5_3 g3_b5_3 k3_b6_0 g3_b6_0 k3_b6_1 g3_b6_1 k3_b6_2 g3_b6_2 k3_b6_3 g3_b6_3 k3_g7_0 g3_g7_0 k3_g7_1 g3_g7_1 k3_g7_2 g3_g7_2 k3_g7_3 g3_g7_3 k3_g8_0 g3_g8_0 k3_g8_1 g3_g8_1 k3_g8_2 g3_g8_2 k3_g8_3 g3_g8_3 B3 z3; intro f hf; have u7 : f 7 = (.pointer (some ⟨g7, 0, none⟩)) := (by rw [← hf]; rfl); clear hf; rintro w' ⟨h0, h1, h2, h3, h4, h5, h6, h7, h8, h9, h10, h11, h12, h13, h14, h15, h16, h17, h18, h19, h20, h21, h22, h23, h24, h25, h26, h27, h28, h29, h30, h31, h32, h33, h34, h35, h36, h37, h38, h39⟩; go_simp; try exact IntWalk.i64_in _ (by omega)
  refine obe_val (by rfl) ?_ ?_
  · clear k3_b4_0 g3_b4_0 k3_b4_1 g3_b4_1 k3_b4_2 g3_b4_2 k3_b4_3 g3_b4_3 k3_b5_0 g3_b5_0 k3_b5_1 g3_b5_1 k3_b5_2 g3_b5_2 k3_b5_3 g3_b5_3 k3_b6_0 g3_b6_0 k3_b6_1 g3_b6_1 k3_b6_2 g3_b6_2 k3_b6_3 g3_b6_3 k3_g7_0 g3_g7_0 k3_g7_1 g3_g7_1 k3_g7_2 g3_g7_2 k3_g7_3 g3_g7_3 k3_g8_0 g3_g8_0 k3_g8_1 g3_g8_1 k3_g8_2 g3_g8_2 k3_g8_3 g3_g8_3 B3 z3; intro f hf; have u48 : f 48 = (.pointer (some ⟨g7, 2, none⟩)) := (by rw [← hf]; rfl); clear hf; rintro w' ⟨h0, h1, h2, h3, h4, h5, h6, h7, h8, h9, h10, h11, h12, h13, h14, h15, h16, h17, h18, h19, h20, h21, h22, h23, h24, h25, h26, h27, h28, h29, h30, h31, h32, h33, h34, h35, h36, h37, h38, h39⟩; go_simp; try exact IntWalk.i64_in _ (by omega)
  refine obe_val (by rfl) ?_ ?_
  · clear k3_b4_0 g3_b4_0 k3_b4_1 g3_b4_1 k3_b4_2 g3_b4_2 k3_b4_3 g3_b4_3 k3_b5_0 g3_b5_0 k3_b5_1 g3_b5_1 k3_b5_2 g3_b5_2 k3_b5_3 g3_b5_3 k3_b6_0 g3_b6_0 k3_b6_1 g3_b6_1 k3_b6_2 g3_b6_2 k3_b6_3 g3_b6_3 k3_g7_0 g3_g7_0 k3_g7_1 g3_g7_1 k3_g7_2 g3_g7_2 k3_g7_3 g3_g7_3 k3_g8_0 g3_g8_0 k3_g8_1 g3_g8_1 k3_g8_2 g3_g8_2 k3_g8_3 g3_g8_3 B3 z3; intro f hf; have u49 : f 49 = (.int .u8 cb) := (by rw [← hf]; rfl); clear hf; rintro w' ⟨h0, h1, h2, h3, h4, h5, h6, h7, h8, h9, h10, h11, h12, h13, h14, h15, h16, h17, h18, h19, h20, h21, h22, h23, h24, h25, h26, h27, h28, h29, h30, h31, h32, h33, h34, h35, h36, h37, h38, h39⟩; go_simp; try exact IntWalk.i64_in _ (by omega)
  refine obe_val (by rfl) ?_ ?_
  · clear k3_b4_0 g3_b4_0 k3_b4_1 g3_b4_1 k3_b4_2 g3_b4_2 k3_b4_3 g3_b4_3 k3_b5_0 g3_b5_0 k3_b5_1 g3_b5_1 k3_b5_2 g3_b5_2 k3_b5_3 g3_b5_3 k3_b6_0 g3_b6_0 k3_b6_1 g3_b6_1 k3_b6_2 g3_b6_2 k3_b6_3 g3_b6_3 k3_g7_0 g3_g7_0 k3_g7_1 g3_g7_1 k3_g7_2 g3_g7_2 k3_g7_3 g3_g7_3 k3_g8_0 g3_g8_0 k3_g8_1 g3_g8_1 k3_g8_2 g3_g8_2 k3_g8_3 g3_g8_3 B3 z3; intro f hf; have u9 : f 9 = (.int .i64 f1) := (by rw [← hf]; rfl); clear hf; rintro w' ⟨h0, h1, h2, h3, h4, h5, h6, h7, h8, h9, h10, h11, h12, h13, h14, h15, h16, h17, h18, h19, h20, h21, h22, h23, h24, h25, h26, h27, h28, h29, h30, h31, h32, h33, h34, h35, h36, h37, h38, h39⟩; go_simp; try exact IntWalk.i64_in _ (by omega)
  refine obe_val (by rfl) ?_ ?_
  · clear k3_b4_0 g3_b4_0 k3_b4_1 g3_b4_1 k3_b4_2 g3_b4_2 k3_b4_3 g3_b4_3 k3_b5_0 g3_b5_0 k3_b5_1 g3_b5_1 k3_b5_2 g3_b5_2 k3_b5_3 g3_b5_3 k3_b6_0 g3_b6_0 k3_b6_1 g3_b6_1 k3_b6_2 g3_b6_2 k3_b6_3 g3_b6_3 k3_g7_0 g3_g7_0 k3_g7_1 g3_g7_1 k3_g7_2 g3_g7_2 k3_g7_3 g3_g7_3 k3_g8_0 g3_g8_0 k3_g8_1 g3_g8_1 k3_g8_2 g3_g8_2 k3_g8_3 g3_g8_3 B3 z3; intro f hf; have u50 : f 50 = (.int .i64 cb) := (by rw [← hf]; rfl); have u51 : f 51 = (.int .i64 f1) := (by rw [← hf]; rfl); clear hf; rintro w' ⟨h0, h1, h2, h3, h4, h5, h6, h7, h8, h9, h10, h11, h12, h13, h14, h15, h16, h17, h18, h19, h20, h21, h22, h23, h24, h25, h26, h27, h28, h29, h30, h31, h32, h33, h34, h35, h36, h37, h38, h39⟩; go_simp; try exact IntWalk.i64_in _ (by omega)
  refine obe_val (by rfl) ?_ ?_
  · clear k3_b4_0 g3_b4_0 k3_b4_1 g3_b4_1 k3_b4_2 g3_b4_2 k3_b4_3 g3_b4_3 k3_b5_0 g3_b5_0 k3_b5_1 g3_b5_1 k3_b5_2 g3_b5_2 k3_b5_3 g3_b5_3 k3_b6_0 g3_b6_0 k3_b6_1 g3_b6_1 k3_b6_2 g3_b6_2 k3_b6_3 g3_b6_3 k3_g7_0 g3_g7_0 k3_g7_1 g3_g7_1 k3_g7_2 g3_g7_2 k3_g7_3 g3_g7_3 k3_g8_0 g3_g8_0 k3_g8_1 g3_g8_1 k3_g8_2 g3_g8_2 k3_g8_3 g3_g8_3 B3 z3; intro f hf; have u8 : f 8 = (.pointer (some ⟨g8, 0, none⟩)) := (by rw [← hf]; rfl); clear hf; rintro w' ⟨h0, h1, h2, h3, h4, h5, h6, h7, h8, h9, h10, h11, h12, h13, h14, h15, h16, h17, h18, h19, h20, h21, h22, h23, h24, h25, h26, h27, h28, h29, h30, h31, h32, h33, h34, h35, h36, h37, h38, h39⟩; go_simp; try exact IntWalk.i64_in _ (by omega)
  refine obe_val (by rfl) ?_ ?_
  · clear k3_b4_0 g3_b4_0 k3_b4_1 g3_b4_1 k3_b4_2 g3_b4_2 k3_b4_3 g3_b4_3 k3_b5_0 g3_b5_0 k3_b5_1 g3_b5_1 k3_b5_2 g3_b5_2 k3_b5_3 g3_b5_3 k3_b6_0 g3_b6_0 k3_b6_1 g3_b6_1 k3_b6_2 g3_b6_2 k3_b6_3 g3_b6_3 k3_g7_0 g3_g7_0 k3_g7_1 g3_g7_1 k3_g7_2 g3_g7_2 k3_g7_3 g3_g7_3 k3_g8_0 g3_g8_0 k3_g8_1 g3_g8_1 k3_g8_2 g3_g8_2 k3_g8_3 g3_g8_3 B3 z3; intro f hf; have u53 : f 53 = (.pointer (some ⟨g8, 2, none⟩)) := (by rw [← hf]; rfl); clear hf; rintro w' ⟨h0, h1, h2, h3, h4, h5, h6, h7, h8, h9, h10, h11, h12, h13, h14, h15, h16, h17, h18, h19, h20, h21, h22, h23, h24, h25, h26, h27, h28, h29, h30, h31, h32, h33, h34, h35, h36, h37, h38, h39⟩; go_simp; try exact IntWalk.i64_in _ (by omega)
  refine obe_val (by rfl) ?_ ?_
  · clear k3_b4_0 g3_b4_0 k3_b4_1 g3_b4_1 k3_b4_2 g3_b4_2 k3_b4_3 g3_b4_3 k3_b5_0 g3_b5_0 k3_b5_1 g3_b5_1 k3_b5_2 g3_b5_2 k3_b5_3 g3_b5_3 k3_b6_0 g3_b6_0 k3_b6_1 g3_b6_1 k3_b6_2 g3_b6_2 k3_b6_3 g3_b6_3 k3_g7_0 g3_g7_0 k3_g7_1 g3_g7_1 k3_g7_2 g3_g7_2 k3_g7_3 g3_g7_3 k3_g8_0 g3_g8_0 k3_g8_1 g3_g8_1 k3_g8_2 g3_g8_2 k3_g8_3 g3_g8_3 B3 z3; intro f hf; have u54 : f 54 = (.int .u8 cu) := (by rw [← hf]; rfl); clear hf; rintro w' ⟨h0, h1, h2, h3, h4, h5, h6, h7, h8, h9, h10, h11, h12, h13, h14, h15, h16, h17, h18, h19, h20, h21, h22, h23, h24, h25, h26, h27, h28, h29, h30, h31, h32, h33, h34, h35, h36, h37, h38, h39⟩; go_simp; try exact IntWalk.i64_in _ (by omega)
  refine obe_val (by rfl) ?_ ?_
  · clear k3_b4_0 g3_b4_0 k3_b4_1 g3_b4_1 k3_b4_2 g3_b4_2 k3_b4_3 g3_b4_3 k3_b5_0 g3_b5_0 k3_b5_1 g3_b5_1 k3_b5_2 g3_b5_2 k3_b5_3 g3_b5_3 k3_b6_0 g3_b6_0 k3_b6_1 g3_b6_1 k3_b6_2 g3_b6_2 k3_b6_3 g3_b6_3 k3_g7_0 g3_g7_0 k3_g7_1 g3_g7_1 k3_g7_2 g3_g7_2 k3_g7_3 g3_g7_3 k3_g8_0 g3_g8_0 k3_g8_1 g3_g8_1 k3_g8_2 g3_g8_2 k3_g8_3 g3_g8_3 B3 z3; intro f hf; have u10 : f 10 = (.int .i64 f2) := (by rw [← hf]; rfl); clear hf; rintro w' ⟨h0, h1, h2, h3, h4, h5, h6, h7, h8, h9, h10, h11, h12, h13, h14, h15, h16, h17, h18, h19, h20, h21, h22, h23, h24, h25, h26, h27, h28, h29, h30, h31, h32, h33, h34, h35, h36, h37, h38, h39⟩; go_simp; try exact IntWalk.i64_in _ (by omega)
  refine obe_val (by rfl) ?_ ?_
  · clear k3_b4_0 g3_b4_0 k3_b4_1 g3_b4_1 k3_b4_2 g3_b4_2 k3_b4_3 g3_b4_3 k3_b5_0 g3_b5_0 k3_b5_1 g3_b5_1 k3_b5_2 g3_b5_2 k3_b5_3 g3_b5_3 k3_b6_0 g3_b6_0 k3_b6_1 g3_b6_1 k3_b6_2 g3_b6_2 k3_b6_3 g3_b6_3 k3_g7_0 g3_g7_0 k3_g7_1 g3_g7_1 k3_g7_2 g3_g7_2 k3_g7_3 g3_g7_3 k3_g8_0 g3_g8_0 k3_g8_1 g3_g8_1 k3_g8_2 g3_g8_2 k3_g8_3 g3_g8_3 B3 z3; intro f hf; have u55 : f 55 = (.int .i64 cu) := (by rw [← hf]; rfl); have u56 : f 56 = (.int .i64 f2) := (by rw [← hf]; rfl); clear hf; rintro w' ⟨h0, h1, h2, h3, h4, h5, h6, h7, h8, h9, h10, h11, h12, h13, h14, h15, h16, h17, h18, h19, h20, h21, h22, h23, h24, h25, h26, h27, h28, h29, h30, h31, h32, h33, h34, h35, h36, h37, h38, h39⟩; go_simp; try exact IntWalk.i64_in _ (by omega)
  refine obe_val (by rfl) ?_ ?_
  · clear k3_b4_0 g3_b4_0 k3_b4_1 g3_b4_1 k3_b4_2 g3_b4_2 k3_b4_3 g3_b4_3 k3_b5_0 g3_b5_0 k3_b5_1 g3_b5_1 k3_b5_2 g3_b5_2 k3_b5_3 g3_b5_3 k3_b6_0 g3_b6_0 k3_b6_1 g3_b6_1 k3_b6_2 g3_b6_2 k3_b6_3 g3_b6_3 k3_g7_0 g3_g7_0 k3_g7_1 g3_g7_1 k3_g7_2 g3_g7_2 k3_g7_3 g3_g7_3 k3_g8_0 g3_g8_0 k3_g8_1 g3_g8_1 k3_g8_2 g3_g8_2 k3_g8_3 g3_g8_3 B3 z3; intro f hf; have u52 : f 52 = (.int .i64 m2) := (by rw [← hf]; rfl); have u57 : f 57 = (.int .i64 n2) := (by rw [← hf]; rfl); clear hf; rintro w' ⟨h0, h1, h2, h3, h4, h5, h6, h7, h8, h9, h10, h11, h12, h13, h14, h15, h16, h17, h18, h19, h20, h21, h22, h23, h24, h25, h26, h27, h28, h29, h30, h31, h32, h33, h34, h35, h36, h37, h38, h39⟩; go_simp; try exact IntWalk.i64_in _ (by omega)
  refine obe_call (by rfl) ?_ ?_ ?_
  · clear k3_b4_0 g3_b4_0 k3_b4_1 g3_b4_1 k3_b4_2 g3_b4_2 k3_b4_3 g3_b4_3 k3_b5_0 g3_b5_0 k3_b5_1 g3_b5_1 k3_b5_2 g3_b5_2 k3_b5_3 g3_b5_3 k3_b6_0 g3_b6_0 k3_b6_1 g3_b6_1 k3_b6_2 g3_b6_2 k3_b6_3 g3_b6_3 k3_g7_0 g3_g7_0 k3_g7_1 g3_g7_1 k3_g7_2 g3_g7_2 k3_g7_3 g3_g7_3 k3_g8_0 g3_g8_0 k3_g8_1 g3_g8_1 k3_g8_2 g3_g8_2 k3_g8_3 g3_g8_3 B3 z3; intro f hf; have u58 : f 58 = (.int .i64 sm2) := (by rw [← hf]; rfl); clear hf; intro w' _; simp only [execOp, resolve, invoke, rhoF_tmp, rhoF_func, rhoF_const, u58, List.map_toArray, List.map_cons, List.map_nil]; go_simp
  · clear k3_b4_0 g3_b4_0 k3_b4_1 g3_b4_1 k3_b4_2 g3_b4_2 k3_b4_3 g3_b4_3 k3_b5_0 g3_b5_0 k3_b5_1 g3_b5_1 k3_b5_2 g3_b5_2 k3_b5_3 g3_b5_3 k3_b6_0 g3_b6_0 k3_b6_1 g3_b6_1 k3_b6_2 g3_b6_2 k3_b6_3 g3_b6_3 k3_g7_0 g3_g7_0 k3_g7_1 g3_g7_1 k3_g7_2 g3_g7_2 k3_g7_3 g3_g7_3 k3_g8_0 g3_g8_0 k3_g8_1 g3_g8_1 k3_g8_2 g3_g8_2 k3_g8_3 g3_g8_3 B3 z3; rintro w' ⟨h0, h1, h2, h3, h4, h5, h6, h7, h8, h9, h10, h11, h12, h13, h14, h15, h16, h17, h18, h19, h20, h21, h22, h23, h24, h25, h26, h27, h28, h29, h30, h31, h32, h33, h34, h35, h36, h37, h38, h39⟩; exact (cd2 _).mono (by rintro e w2 ⟨rfl, rfl⟩; exact ⟨rfl, Below.refl _ _⟩)
  refine obe_val (by rfl) ?_ ?_
  · clear k3_b4_0 g3_b4_0 k3_b4_1 g3_b4_1 k3_b4_2 g3_b4_2 k3_b4_3 g3_b4_3 k3_b5_0 g3_b5_0 k3_b5_1 g3_b5_1 k3_b5_2 g3_b5_2 k3_b5_3 g3_b5_3 k3_b6_0 g3_b6_0 k3_b6_1 g3_b6_1 k3_b6_2 g3_b6_2 k3_b6_3 g3_b6_3 k3_g7_0 g3_g7_0 k3_g7_1 g3_g7_1 k3_g7_2 g3_g7_2 k3_g7_3 g3_g7_3 k3_g8_0 g3_g8_0 k3_g8_1 g3_g8_1 k3_g8_2 g3_g8_2 k3_g8_3 g3_g8_3 B3 z3; intro f hf; have u7 : f 7 = (.pointer (some ⟨g7, 0, none⟩)) := (by rw [← hf]; rfl); clear hf; rintro w' ⟨h0, h1, h2, h3, h4, h5, h6, h7, h8, h9, h10, h11, h12, h13, h14, h15, h16, h17, h18, h19, h20, h21, h22, h23, h24, h25, h26, h27, h28, h29, h30, h31, h32, h33, h34, h35, h36, h37, h38, h39⟩; go_simp; try exact IntWalk.i64_in _ (by omega)
  refine obe_val (by rfl) ?_ ?_
  · clear k3_b4_0 g3_b4_0 k3_b4_1 g3_b4_1 k3_b4_2 g3_b4_2 k3_b4_3 g3_b4_3 k3_b5_0 g3_b5_0 k3_b5_1 g3_b5_1 k3_b5_2 g3_b5_2 k3_b5_3 g3_b5_3 k3_b6_0 g3_b6_0 k3_b6_1 g3_b6_1 k3_b6_2 g3_b6_2 k3_b6_3 g3_b6_3 k3_g7_0 g3_g7_0 k3_g7_1 g3_g7_1 k3_g7_2 g3_g7_2 k3_g7_3 g3_g7_3 k3_g8_0 g3_g8_0 k3_g8_1 g3_g8_1 k3_g8_2 g3_g8_2 k3_g8_3 g3_g8_3 B3 z3; intro f hf; have u60 : f 60 = (.pointer (some ⟨g7, 3, none⟩)) := (by rw [← hf]; rfl); clear hf; rintro w' ⟨h0, h1, h2, h3, h4, h5, h6, h7, h8, h9, h10, h11, h12, h13, h14, h15, h16, h17, h18, h19, h20, h21, h22, h23, h24, h25, h26, h27, h28, h29, h30, h31, h32, h33, h34, h35, h36, h37, h38, h39⟩; go_simp; try exact IntWalk.i64_in _ (by omega)
  refine obe_val (by rfl) ?_ ?_
  · clear k3_b4_0 g3_b4_0 k3_b4_1 g3_b4_1 k3_b4_2 g3_b4_2 k3_b4_3 g3_b4_3 k3_b5_0 g3_b5_0 k3_b5_1 g3_b5_1 k3_b5_2 g3_b5_2 k3_b5_3 g3_b5_3 k3_b6_0 g3_b6_0 k3_b6_1 g3_b6_1 k3_b6_2 g3_b6_2 k3_b6_3 g3_b6_3 k3_g7_0 g3_g7_0 k3_g7_1 g3_g7_1 k3_g7_2 g3_g7_2 k3_g7_3 g3_g7_3 k3_g8_0 g3_g8_0 k3_g8_1 g3_g8_1 k3_g8_2 g3_g8_2 k3_g8_3 g3_g8_3 B3 z3; intro f hf; have u61 : f 61 = (.int .u8 a) := (by rw [← hf]; rfl); clear hf; rintro w' ⟨h0, h1, h2, h3, h4, h5, h6, h7, h8, h9, h10, h11, h12, h13, h14, h15, h16, h17, h18, h19, h20, h21, h22, h23, h24, h25, h26, h27, h28, h29, h30, h31, h32, h33, h34, h35, h36, h37, h38, h39⟩; go_simp; try exact IntWalk.i64_in _ (by omega)
  refine obe_val (by rfl) ?_ ?_
  · clear k3_b4_0 g3_b4_0 k3_b4_1 g3_b4_1 k3_b4_2 g3_b4_2 k3_b4_3 g3_b4_3 k3_b5_0 g3_b5_0 k3_b5_1 g3_b5_1 k3_b5_2 g3_b5_2 k3_b5_3 g3_b5_3 k3_b6_0 g3_b6_0 k3_b6_1 g3_b6_1 k3_b6_2 g3_b6_2 k3_b6_3 g3_b6_3 k3_g7_0 g3_g7_0 k3_g7_1 g3_g7_1 k3_g7_2 g3_g7_2 k3_g7_3 g3_g7_3 k3_g8_0 g3_g8_0 k3_g8_1 g3_g8_1 k3_g8_2 g3_g8_2 k3_g8_3 g3_g8_3 B3 z3; intro f hf; have u9 : f 9 = (.int .i64 f1) := (by rw [← hf]; rfl); clear hf; rintro w' ⟨h0, h1, h2, h3, h4, h5, h6, h7, h8, h9, h10, h11, h12, h13, h14, h15, h16, h17, h18, h19, h20, h21, h22, h23, h24, h25, h26, h27, h28, h29, h30, h31, h32, h33, h34, h35, h36, h37, h38, h39⟩; go_simp; try exact IntWalk.i64_in _ (by omega)
  refine obe_val (by rfl) ?_ ?_
  · clear k3_b4_0 g3_b4_0 k3_b4_1 g3_b4_1 k3_b4_2 g3_b4_2 k3_b4_3 g3_b4_3 k3_b5_0 g3_b5_0 k3_b5_1 g3_b5_1 k3_b5_2 g3_b5_2 k3_b5_3 g3_b5_3 k3_b6_0 g3_b6_0 k3_b6_1 g3_b6_1 k3_b6_2 g3_b6_2 k3_b6_3 g3_b6_3 k3_g7_0 g3_g7_0 k3_g7_1 g3_g7_1 k3_g7_2 g3_g7_2 k3_g7_3 g3_g7_3 k3_g8_0 g3_g8_0 k3_g8_1 g3_g8_1 k3_g8_2 g3_g8_2 k3_g8_3 g3_g8_3 B3 z3; intro f hf; have u62 : f 62 = (.int .i64 a) := (by rw [← hf]; rfl); have u63 : f 63 = (.int .i64 f1) := (by rw [← hf]; rfl); clear hf; rintro w' ⟨h0, h1, h2, h3, h4, h5, h6, h7, h8, h9, h10, h11, h12, h13, h14, h15, h16, h17, h18, h19, h20, h21, h22, h23, h24, h25, h26, h27, h28, h29, h30, h31, h32, h33, h34, h35, h36, h37, h38, h39⟩; go_simp; try exact IntWalk.i64_in _ (by omega)
  refine obe_val (by rfl) ?_ ?_
  · clear k3_b4_0 g3_b4_0 k3_b4_1 g3_b4_1 k3_b4_2 g3_b4_2 k3_b4_3 g3_b4_3 k3_b5_0 g3_b5_0 k3_b5_1 g3_b5_1 k3_b5_2 g3_b5_2 k3_b5_3 g3_b5_3 k3_b6_0 g3_b6_0 k3_b6_1 g3_b6_1 k3_b6_2 g3_b6_2 k3_b6_3 g3_b6_3 k3_g7_0 g3_g7_0 k3_g7_1 g3_g7_1 k3_g7_2 g3_g7_2 k3_g7_3 g3_g7_3 k3_g8_0 g3_g8_0 k3_g8_1 g3_g8_1 k3_g8_2 g3_g8_2 k3_g8_3 g3_g8_3 B3 z3; intro f hf; have u8 : f 8 = (.pointer (some ⟨g8, 0, none⟩)) := (by rw [← hf]; rfl); clear hf; rintro w' ⟨h0, h1, h2, h3, h4, h5, h6, h7, h8, h9, h10, h11, h12, h13, h14, h15, h16, h17, h18, h19, h20, h21, h22, h23, h24, h25, h26, h27, h28, h29, h30, h31, h32, h33, h34, h35, h36, h37, h38, h39⟩; go_simp; try exact IntWalk.i64_in _ (by omega)
  refine obe_val (by rfl) ?_ ?_
  · clear k3_b4_0 g3_b4_0 k3_b4_1 g3_b4_1 k3_b4_2 g3_b4_2 k3_b4_3 g3_b4_3 k3_b5_0 g3_b5_0 k3_b5_1 g3_b5_1 k3_b5_2 g3_b5_2 k3_b5_3 g3_b5_3 k3_b6_0 g3_b6_0 k3_b6_1 g3_b6_1 k3_b6_2 g3_b6_2 k3_b6_3 g3_b6_3 k3_g7_0 g3_g7_0 k3_g7_1 g3_g7_1 k3_g7_2 g3_g7_2 k3_g7_3 g3_g7_3 k3_g8_0 g3_g8_0 k3_g8_1 g3_g8_1 k3_g8_2 g3_g8_2 k3_g8_3 g3_g8_3 B3 z3; intro f hf; have u65 : f 65 = (.pointer (some ⟨g8, 3, none⟩)) := (by rw [← hf]; rfl); clear hf; rintro w' ⟨h0, h1, h2, h3, h4, h5, h6, h7, h8, h9, h10, h11, h12, h13, h14, h15, h16, h17, h18, h19, h20, h21, h22, h23, h24, h25, h26, h27, h28, h29, h30, h31, h32, h33, h34, h35, h36, h37, h38, h39⟩; go_simp; try exact IntWalk.i64_in _ (by omega)
  refine obe_val (by rfl) ?_ ?_
  · clear k3_b4_0 g3_b4_0 k3_b4_1 g3_b4_1 k3_b4_2 g3_b4_2 k3_b4_3 g3_b4_3 k3_b5_0 g3_b5_0 k3_b5_1 g3_b5_1 k3_b5_2 g3_b5_2 k3_b5_3 g3_b5_3 k3_b6_0 g3_b6_0 k3_b6_1 g3_b6_1 k3_b6_2 g3_b6_2 k3_b6_3 g3_b6_3 k3_g7_0 g3_g7_0 k3_g7_1 g3_g7_1 k3_g7_2 g3_g7_2 k3_g7_3 g3_g7_3 k3_g8_0 g3_g8_0 k3_g8_1 g3_g8_1 k3_g8_2 g3_g8_2 k3_g8_3 g3_g8_3 B3 z3; intro f hf; have u66 : f 66 = (.int .u8 d) := (by rw [← hf]; rfl); clear hf; rintro w' ⟨h0, h1, h2, h3, h4, h5, h6, h7, h8, h9, h10, h11, h12, h13, h14, h15, h16, h17, h18, h19, h20, h21, h22, h23, h24, h25, h26, h27, h28, h29, h30, h31, h32, h33, h34, h35, h36, h37, h38, h39⟩; go_simp; try exact IntWalk.i64_in _ (by omega)
  refine obe_val (by rfl) ?_ ?_
  · clear k3_b4_0 g3_b4_0 k3_b4_1 g3_b4_1 k3_b4_2 g3_b4_2 k3_b4_3 g3_b4_3 k3_b5_0 g3_b5_0 k3_b5_1 g3_b5_1 k3_b5_2 g3_b5_2 k3_b5_3 g3_b5_3 k3_b6_0 g3_b6_0 k3_b6_1 g3_b6_1 k3_b6_2 g3_b6_2 k3_b6_3 g3_b6_3 k3_g7_0 g3_g7_0 k3_g7_1 g3_g7_1 k3_g7_2 g3_g7_2 k3_g7_3 g3_g7_3 k3_g8_0 g3_g8_0 k3_g8_1 g3_g8_1 k3_g8_2 g3_g8_2 k3_g8_3 g3_g8_3 B3 z3; intro f hf; have u10 : f 10 = (.int .i64 f2) := (by rw [← hf]; rfl); clear hf; rintro w' ⟨h0, h1, h2, h3, h4, h5, h6, h7, h8, h9, h10, h11, h12, h13, h14, h15, h16, h17, h18, h19, h20, h21, h22, h23, h24, h25, h26, h27, h28, h29, h30, h31, h32, h33, h34, h35, h36, h37, h38, h39⟩; go_simp; try exact IntWalk.i64_in _ (by omega)
  refine obe_val (by rfl) ?_ ?_
  · clear k3_b4_0 g3_b4_0 k3_b4_1 g3_b4_1 k3_b4_2 g3_b4_2 k3_b4_3 g3_b4_3 k3_b5_0 g3_b5_0 k3_b5_1 g3_b5_1 k3_b5_2 g3_b5_2 k3_b5_3 g3_b5_3 k3_b6_0 g3_b6_0 k3_b6_1 g3_b6_1 k3_b6_2 g3_b6_2 k3_b6_3 g3_b6_3 k3_g7_0 g3_g7_0 k3_g7_1 g3_g7_1 k3_g7_2 g3_g7_2 k3_g7_3 g3_g7_3 k3_g8_0 g3_g8_0 k3_g8_1 g3_g8_1 k3_g8_2 g3_g8_2 k3_g8_3 g3_g8_3 B3 z3; intro f hf; have u67 : f 67 = (.int .i64 d) := (by rw [← hf]; rfl); have u68 : f 68 = (.int .i64 f2) := (by rw [← hf]; rfl); clear hf; rintro w' ⟨h0, h1, h2, h3, h4, h5, h6, h7, h8, h9, h10, h11, h12, h13, h14, h15, h16, h17, h18, h19, h20, h21, h22, h23, h24, h25, h26, h27, h28, h29, h30, h31, h32, h33, h34, h35, h36, h37, h38, h39⟩; go_simp; try exact IntWalk.i64_in _ (by omega)
  refine obe_val (by rfl) ?_ ?_
  · clear k3_b4_0 g3_b4_0 k3_b4_1 g3_b4_1 k3_b4_2 g3_b4_2 k3_b4_3 g3_b4_3 k3_b5_0 g3_b5_0 k3_b5_1 g3_b5_1 k3_b5_2 g3_b5_2 k3_b5_3 g3_b5_3 k3_b6_0 g3_b6_0 k3_b6_1 g3_b6_1 k3_b6_2 g3_b6_2 k3_b6_3 g3_b6_3 k3_g7_0 g3_g7_0 k3_g7_1 g3_g7_1 k3_g7_2 g3_g7_2 k3_g7_3 g3_g7_3 k3_g8_0 g3_g8_0 k3_g8_1 g3_g8_1 k3_g8_2 g3_g8_2 k3_g8_3 g3_g8_3 B3 z3; intro f hf; have u64 : f 64 = (.int .i64 m3) := (by rw [← hf]; rfl); have u69 : f 69 = (.int .i64 n3) := (by rw [← hf]; rfl); clear hf; rintro w' ⟨h0, h1, h2, h3, h4, h5, h6, h7, h8, h9, h10, h11, h12, h13, h14, h15, h16, h17, h18, h19, h20, h21, h22, h23, h24, h25, h26, h27, h28, h29, h30, h31, h32, h33, h34, h35, h36, h37, h38, h39⟩; go_simp; try exact IntWalk.i64_in _ (by omega)
  refine obe_call (by rfl) ?_ ?_ ?_
  · clear k3_b4_0 g3_b4_0 k3_b4_1 g3_b4_1 k3_b4_2 g3_b4_2 k3_b4_3 g3_b4_3 k3_b5_0 g3_b5_0 k3_b5_1 g3_b5_1 k3_b5_2 g3_b5_2 k3_b5_3 g3_b5_3 k3_b6_0 g3_b6_0 k3_b6_1 g3_b6_1 k3_b6_2 g3_b6_2 k3_b6_3 g3_b6_3 k3_g7_0 g3_g7_0 k3_g7_1 g3_g7_1 k3_g7_2 g3_g7_2 k3_g7_3 g3_g7_3 k3_g8_0 g3_g8_0 k3_g8_1 g3_g8_1 k3_g8_2 g3_g8_2 k3_g8_3 g3_g8_3 B3 z3; intro f hf; have u70 : f 70 = (.int .i64 sm3) := (by rw [← hf]; rfl); clear hf; intro w' _; simp only [execOp, resolve, invoke, rhoF_tmp, rhoF_func, rhoF_const, u70, List.map_toArray, List.map_cons, List.map_nil]; go_simp
  · clear k3_b4_0 g3_b4_0 k3_b4_1 g3_b4_1 k3_b4_2 g3_b4_2 k3_b4_3 g3_b4_3 k3_b5_0 g3_b5_0 k3_b5_1 g3_b5_1 k3_b5_2 g3_b5_2 k3_b5_3 g3_b5_3 k3_b6_0 g3_b6_0 k3_b6_1 g3_b6_1 k3_b6_2 g3_b6_2 k3_b6_3 g3_b6_3 k3_g7_0 g3_g7_0 k3_g7_1 g3_g7_1 k3_g7_2 g3_g7_2 k3_g7_3 g3_g7_3 k3_g8_0 g3_g8_0 k3_g8_1 g3_g8_1 k3_g8_2 g3_g8_2 k3_g8_3 g3_g8_3 B3 z3; rintro w' ⟨h0, h1, h2, h3, h4, h5, h6, h7, h8, h9, h10, h11, h12, h13, h14, h15, h16, h17, h18, h19, h20, h21, h22, h23, h24, h25, h26, h27, h28, h29, h30, h31, h32, h33, h34, h35, h36, h37, h38, h39⟩; exact (cd3 _).mono (by rintro e w2 ⟨rfl, rfl⟩; exact ⟨rfl, Below.refl _ _⟩)
  refine obe_val (by rfl) ?_ ?_
  · clear k3_b4_0 g3_b4_0 k3_b4_1 g3_b4_1 k3_b4_2 g3_b4_2 k3_b4_3 g3_b4_3 k3_b5_0 g3_b5_0 k3_b5_1 g3_b5_1 k3_b5_2 g3_b5_2 k3_b5_3 g3_b5_3 k3_b6_0 g3_b6_0 k3_b6_1 g3_b6_1 k3_b6_2 g3_b6_2 k3_b6_3 g3_b6_3 k3_g7_0 g3_g7_0 k3_g7_1 g3_g7_1 k3_g7_2 g3_g7_2 k3_g7_3 g3_g7_3 k3_g8_0 g3_g8_0 k3_g8_1 g3_g8_1 k3_g8_2 g3_g8_2 k3_g8_3 g3_g8_3 B3 z3; intro f hf; have u35 : f 35 = (.int .u8 l0) := (by rw [← hf]; rfl); have u47 : f 47 = (.int .u8 l1) := (by rw [← hf]; rfl); have u59 : f 59 = (.int .u8 l2) := (by rw [← hf]; rfl); have u71 : f 71 = (.int .u8 l3) := (by rw [← hf]; rfl); clear hf; rintro w' ⟨h0, h1, h2, h3, h4, h5, h6, h7, h8, h9, h10, h11, h12, h13, h14, h15, h16, h17, h18, h19, h20, h21, h22, h23, h24, h25, h26, h27, h28, h29, h30, h31, h32, h33, h34, h35, h36, h37, h38, h39⟩; go_simp; try exact IntWalk.i64_in _ (by omega)
  refine obe_nil ?_
  rintro w4 ⟨h0, h1, h2, h3, h4, h5, h6, h7, h8, h9, h10, h11, h12, h13, h14, h15, h16, h17, h18, h19, h20, h21, h22, h23, h24, h25, h26, h27, h28, h29, h30, h31, h32, h33, h34, h35, h36, h37, h38, h39⟩ hb4 hF
  (try simp only [List.nil_append, List.append_nil, List.cons_append] at hF)
  simp only [puts, putD, Act.put, List.setIfInBounds_toArray, List.set_cons_zero, List.set_cons_succ]
  clear hF
  have k4_b4_0 := bcs hb4 k3_b4_0
  have g4_b4_0 := bfs hb4 k3_b4_0 g3_b4_0
  have k4_b4_1 := bcs hb4 k3_b4_1
  have g4_b4_1 := bfs hb4 k3_b4_1 g3_b4_1
  have k4_b4_2 := bcs hb4 k3_b4_2
  have g4_b4_2 := bfs hb4 k3_b4_2 g3_b4_2
  have k4_b4_3 := bcs hb4 k3_b4_3
  have g4_b4_3 := bfs hb4 k3_b4_3 g3_b4_3
  have k4_b5_0 := bcs hb4 k3_b5_0
  have g4_b5_0 := bfs hb4 k3_b5_0 g3_b5_0
  have k4_b5_1 := bcs hb4 k3_b5_1
  have g4_b5_1 := bfs hb4 k3_b5_1 g3_b5_1
  have k4_b5_2 := bcs hb4 k3_b5_2
  have g4_b5_2 := bfs hb4 k3_b5_2 g3_b5_2
  have k4_b5_3 := bcs hb4 k3_b5_3
  have g4_b5_3 := bfs hb4 k3_b5_3 g3_b5_3
  have k4_b6_0 := bcs hb4 k3_b6_0
  have g4_b6_0 := bfs hb4 k3_b6_0 g3_b6_0
  have k4_b6_1 := bcs hb4 k3_b6_1
  have g4_b6_1 := bfs hb4 k3_b6_1 g3_b6_1
  have k4_b6_2 := bcs hb4 k3_b6_2
  have g4_b6_2 := bfs hb4 k3_b6_2 g3_b6_2
  have k4_b6_3 := bcs hb4 k3_b6_3
  have g4_b6_3 := bfs hb4 k3_b6_3 g3_b6_3
  have k4_g7_0 := bcs hb4 k3_g7_0
  have g4_g7_0 := bfs hb4 k3_g7_0 g3_g7_0
  have k4_g7_1 := bcs hb4 k3_g7_1
  have g4_g7_1 := bfs hb4 k3_g7_1 g3_g7_1
  have k4_g7_2 := bcs hb4 k3_g7_2
  have g4_g7_2 := bfs hb4 k3_g7_2 g3_g7_2
  have k4_g7_3 := bcs hb4 k3_g7_3
  have g4_g7_3 := bfs hb4 k3_g7_3 g3_g7_3
  have k4_g8_0 := bcs hb4 k3_g8_0
  have g4_g8_0 := bfs hb4 k3_g8_0 g3_g8_0
  have k4_g8_1 := bcs hb4 k3_g8_1
  have g4_g8_1 := bfs hb4 k3_g8_1 g3_g8_1
  have k4_g8_2 := bcs hb4 k3_g8_2
  have g4_g8_2 := bfs hb4 k3_g8_2 g3_g8_2
  have k4_g8_3 := bcs hb4 k3_g8_3
  have g4_g8_3 := bfs hb4 k3_g8_3 g3_g8_3
  clear h0 h1 h2 h3 h4 h5 h6 h7 h8 h9 h10 h11 h12 h13 h14 h15 h16 h17 h18 h19 h20 h21 h22 h23 h24 h25 h26 h27 h28 h29 h30 h31 h32 h33 h34 h35 h36 h37 h38 h39
  have B4 := bel_step B3 hb4
  have z4 := Nat.le_trans z3 hb4.size
  clear hb4
  (try clear B3)
  (try clear z3)
  (try clear k3_b4_0)
  (try clear g3_b4_0)
  (try clear k3_b4_1)
  (try clear g3_b4_1)
  (try clear k3_b4_2)
  (try clear g3_b4_2)
  (try clear k3_b4_3)
  (try clear g3_b4_3)
  (try clear k3_b5_0)
  (try clear g3_b5_0)
  (try clear k3_b5_1)
  (try clear g3_b5_1)
  (try clear k3_b5_2)
  (try clear g3_b5_2)
  (try clear k3_b5_3)
  (try clear g3_b5_3)
  (try clear k3_b6_0)
  (try clear g3_b6_0)
  (try clear k3_b6_1)
  (try clear g3_b6_1)
  (try clear k3_b6_2)
  (try clear g3_b6_2)
  (try clear k3_b6_3)
  (try clear g3_b6_3)
  (try clear k3_g7_0)
  (try clear g3_g7_0)
  (try clear k3_g7_1)
  (try clear g3_g7_1)
  (try clear k3_g7_2)
  (try clear g3_g7_2)
  (try clear k3_g7_3)
  (try clear g3_g7_3)
  (try clear k3_g8_0)
  (try clear g3_g8_0)
  (try clear k3_g8_1)
  (try clear g3_g8_1)
  (try clear k3_g8_2)
  (try clear g3_g8_2)
  (try clear k3_g8_3)
  (try clear g3_g8_3)
  (try clear q3_b4)
  (try clear x3_b4)
  (try clear y3_b4)
  (try clear q3_b5)
  (try clear x3_b5)
  (try clear y3_b5)
  (try clear q3_b6)
  (try clear x3_b6)
  (try clear y3_b6)
  (try clear q3_g7)
  (try clear x3_g7)
  (try clear y3_g7)
  (try clear q3_g8)
  (try clear x3_g8)
  (try clear y3_g8)
  have q4_b4 : w.heap.size < w4.heap.size := qlt k4_b4_0
  have x4_b4 : ¬ w.heap.size = w4.heap.size := qne k4_b4_0
  have y4_b4 : ¬ w4.heap.size = w.heap.size := fun h => qne k4_b4_0 h.symm
  have q4_b5 : w.heap.size + 1 < w4.heap.size := qlt k4_b5_0
  have x4_b5 : ¬ w.heap.size + 1 = w4.heap.size := qne k4_b5_0
  have y4_b5 : ¬ w4.heap.size = w.heap.size + 1 := fun h => qne k4_b5_0 h.symm
  have q4_b6 : w.heap.size + 1 + 1 < w4.heap.size := qlt k4_b6_0
  have x4_b6 : ¬ w.heap.size + 1 + 1 = w4.heap.size := qne k4_b6_0
  have y4_b6 : ¬ w4.heap.size = w.heap.size + 1 + 1 := fun h => qne k4_b6_0 h.symm
  have q4_g7 : g7 < w4.heap.size := qlt k4_g7_0
  have x4_g7 : ¬ g7 = w4.heap.size := qne k4_g7_0
  have y4_g7 : ¬ w4.heap.size = g7 := fun h => qne k4_g7_0 h.symm
  have q4_g8 : g8 < w4.heap.size := qlt k4_g8_0
  have x4_g8 : ¬ g8 = w4.heap.size := qne k4_g8_0
  have y4_g8 : ¬ w4.heap.size = g8 := fun h => qne k4_g8_0 h.symm
  go_wp2
  refine bodyPost_ret (v := .agg #[.int .u8 l0, .int .u8 l1, .int .u8 l2, .int .u8 l3]) (by simp [results, Try.results16, go_sem, *]) rfl ⟨rfl, ?_⟩
  repeat (first | with_reducible exact Below.refl _ _ | with_reducible exact B4 | with_reducible apply below_drewN | with_reducible apply Below.drew | (with_reducible refine Below.alloc ?_ (by first | (simp; done) | (simp; omega) | omega) _) | (with_reducible refine Below.setCell ?_ (by first | (simp; done) | (simp; omega) | omega) _))
end Go.Proofs.Ytgaabdidddglhaa
