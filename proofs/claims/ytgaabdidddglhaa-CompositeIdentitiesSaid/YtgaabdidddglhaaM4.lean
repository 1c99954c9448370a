import Derived.Test.YtgaabdidddglhaaM2
import Derived.Test.YtgaabdidddglhaaB5
import Derived.WalkKit
import Derived.WalkSpells
import Derived.WalkLawsBesides
import Derived.Lib.Hide
import Derived.Below
import Derived.Deep.QuietTactic
import Derived.BigQuiet
import Derived.Deep.RegionHeld3
import Derived.Deep.DrawnRows
import Derived.Deep.DeepFit
import Derived.IntWalk
namespace Go.Proofs.Ytgaabdidddglhaa
open Go.RowKit
set_option linter.unusedVariables false
set_option linter.unusedSimpArgs false
attribute [local go_sem ↓] Go.wp_at_zero Go.wp_at_succ
attribute [local go_sem] rhoF_tmp rhoF_const rhoF_global rhoF_func

def cpv (v w f g : Int) : Int := divN (v * f + w * g)
theorem cpv_bd {v w f g : Int} (v0 : 0 ≤ v) (v1 : v ≤ 255) (w0 : 0 ≤ w) (w1 : w ≤ 255) (f0 : 0 ≤ f) (f1 : f ≤ 255) (g0 : 0 ≤ g) (g1 : g ≤ 255) : 0 ≤ v * f ∧ v * f ≤ 65025 ∧ 0 ≤ w * g ∧ w * g ≤ 65025 := by
  have a0 := Int.mul_nonneg v0 f0
  have a1 : v * f ≤ 255 * 255 := Int.mul_le_mul v1 f1 f0 (by omega)
  have b0 := Int.mul_nonneg w0 g0
  have b1 : w * g ≤ 255 * 255 := Int.mul_le_mul w1 g1 g0 (by omega)
  omega
set_option maxHeartbeats 1000000 in
theorem cmpl_any (v x f g : Int) (p q : Nat) (v0 : 0 ≤ v) (v1 : v ≤ 255) (x0 : 0 ≤ x) (x1 : x ≤ 255) (f0 : 0 ≤ f) (f1 : f ≤ 255) (g0 : 0 ≤ g) (g1 : g ≤ 255) (w : World) (hp : w.cell? ⟨p, 0, none⟩ = some (.int .i64 f)) (hq : w.cell? ⟨q, 0, none⟩ = some (.int .i64 g)) :
    Calls Try.prog 26 #[.int .u8 v, .int .u8 x, .pointer (some ⟨p, 0, none⟩), .pointer (some ⟨q, 0, none⟩)] w fun e w' => e = .returned (.int .u8 (cpv v x f g)) ∧ w = w' := by
  obtain ⟨a0, a1, b0, b1⟩ := cpv_bd v0 v1 x0 x1 f0 f1 g0 g1
  have cd := fun w => divNorm8_any (v * f + x * g) w
  unfold cpv
  obtain ⟨z, hz⟩ : ∃ y, divN (v * f + x * g) = y := ⟨_, rfl⟩
  rw [hz] at cd ⊢
  clear hz
  go_enter Try.func26, Try.ntmps26
  go_wp2_with (go_at_call 27; (with_reducible refine (cd _).mono ?_); rintro e w9 ⟨rfl, rfl⟩)
  go_ret
  exact ⟨rfl, rfl⟩

set_option maxHeartbeats 8000000 in
theorem compose_any (op r g b a s t u d : Int) (r0 : 0 ≤ r) (r1 : r ≤ 255) (g0 : 0 ≤ g) (g1 : g ≤ 255) (b0 : 0 ≤ b) (b1 : b ≤ 255) (a0 : 0 ≤ a) (a1 : a ≤ 255) (s0 : 0 ≤ s) (s1 : s ≤ 255) (t0 : 0 ≤ t) (t1 : t ≤ 255) (u0 : 0 ≤ u) (u1 : u ≤ 255) (d0 : 0 ≤ d) (d1 : d ≤ 255) (hw : (Lit.int .i64 op).wf = true) (w : World) :
    Calls Try.prog 15 #[.int .i64 op, .agg #[.int .u8 r, .int .u8 g, .int .u8 b, .int .u8 a], .agg #[.int .u8 s, .int .u8 t, .int .u8 u, .int .u8 d]] w fun e w' => e = .returned (.agg #[.int .u8 (cpv (min r a) (min s d) (fac1 op a d) (ff2 op a d)), .int .u8 (cpv (min g a) (min t d) (fac1 op a d) (ff2 op a d)), .int .u8 (cpv (min b a) (min u d) (fac1 op a d) (ff2 op a d)), .int .u8 (cpv (a) (d) (fac1 op a d) (ff2 op a d))]) ∧ Below w.heap.size w w' := by
  have hmf : ∀ (fn : Fn) (first cap : Array Value) (w : World), (Instr.makeFunc fn first cap).run Try.prog w = .ok (.func fn first cap) w := fun _ _ _ _ => rfl
  have f1b := fac1_bd op a d a0 a1 d0 d1
  have f2b := ff2_bd op a d a0 a1 d0 d1
  have cf := fun w => factors_any op a d a0 a1 d0 d1 hw w
  obtain ⟨f1, hf1⟩ : ∃ z, fac1 op a d = z := ⟨_, rfl⟩
  obtain ⟨f2, hf2⟩ : ∃ z, ff2 op a d = z := ⟨_, rfl⟩
  rw [hf1] at cf f1b ⊢
  rw [hf2] at cf f2b ⊢
  clear hf1 hf2
  obtain ⟨cr, hr⟩ : ∃ x, min r a = x := ⟨_, rfl⟩
  obtain ⟨cg, hg⟩ : ∃ x, min g a = x := ⟨_, rfl⟩
  obtain ⟨cb, hb⟩ : ∃ x, min b a = x := ⟨_, rfl⟩
  obtain ⟨cs, hs⟩ : ∃ x, min s d = x := ⟨_, rfl⟩
  obtain ⟨ct, ht⟩ : ∃ x, min t d = x := ⟨_, rfl⟩
  obtain ⟨cu, hu⟩ : ∃ x, min u d = x := ⟨_, rfl⟩
  rw [hr, hg, hb, hs, ht, hu]
  have cc0 := fun p q w hp hq => cmpl_any cr cs f1 f2 p q (by omega) (by omega) (by omega) (by omega) f1b.1 f1b.2 f2b.1 f2b.2 w hp hq
  obtain ⟨l0, hl0⟩ : ∃ z, cpv cr cs f1 f2 = z := ⟨_, rfl⟩
  rw [hl0] at cc0
  have cc1 := fun p q w hp hq => cmpl_any cg ct f1 f2 p q (by omega) (by omega) (by omega) (by omega) f1b.1 f1b.2 f2b.1 f2b.2 w hp hq
  obtain ⟨l1, hl1⟩ : ∃ z, cpv cg ct f1 f2 = z := ⟨_, rfl⟩
  rw [hl1] at cc1
  have cc2 := fun p q w hp hq => cmpl_any cb cu f1 f2 p q (by omega) (by omega) (by omega) (by omega) f1b.1 f1b.2 f2b.1 f2b.2 w hp hq
  obtain ⟨l2, hl2⟩ : ∃ z, cpv cb cu f1 f2 = z := ⟨_, rfl⟩
  rw [hl2] at cc2
  have cc3 := fun p q w hp hq => cmpl_any a d f1 f2 p q (by omega) (by omega) (by omega) (by omega) f1b.1 f1b.2 f2b.1 f2b.2 w hp hq
  obtain ⟨l3, hl3⟩ : ∃ z, cpv a d f1 f2 = z := ⟨_, rfl⟩
  rw [hl3] at cc3
  rw [hl0, hl1, hl2, hl3]
  clear hl0 hl1 hl2 hl3
  go_enter Try.func15, Try.ntmps15
  go_wp2
  refine wp_region_env (fun w' => w'.cell? ⟨w.heap.size, 0, none⟩ = some (.int .u8 r) ∧ w'.frozen? ⟨w.heap.size, 0, none⟩ = false ∧ w'.cell? ⟨w.heap.size, 1, none⟩ = some (.int .u8 g) ∧ w'.frozen? ⟨w.heap.size, 1, none⟩ = false ∧ w'.cell? ⟨w.heap.size, 2, none⟩ = some (.int .u8 b) ∧ w'.frozen? ⟨w.heap.size, 2, none⟩ = false ∧ w'.cell? ⟨w.heap.size, 3, none⟩ = some (.int .u8 a) ∧ w'.frozen? ⟨w.heap.size, 3, none⟩ = false ∧ w'.cell? ⟨w.heap.size + 1, 0, none⟩ = some (.int .u8 s) ∧ w'.frozen? ⟨w.heap.size + 1, 0, none⟩ = false ∧ w'.cell? ⟨w.heap.size + 1, 1, none⟩ = some (.int .u8 t) ∧ w'.frozen? ⟨w.heap.size + 1, 1, none⟩ = false ∧ w'.cell? ⟨w.heap.size + 1, 2, none⟩ = some (.int .u8 u) ∧ w'.frozen? ⟨w.heap.size + 1, 2, none⟩ = false ∧ w'.cell? ⟨w.heap.size + 1, 3, none⟩ = some (.int .u8 d) ∧ w'.frozen? ⟨w.heap.size + 1, 3, none⟩ = false ∧ w'.cell? ⟨w.heap.size + 1 + 1, 0, none⟩ = some (.int .u8 0) ∧ w'.frozen? ⟨w.heap.size + 1 + 1, 0, none⟩ = false ∧ w'.cell? ⟨w.heap.size + 1 + 1, 1, none⟩ = some (.int .u8 0) ∧ w'.frozen? ⟨w.heap.size + 1 + 1, 1, none⟩ = false ∧ w'.cell? ⟨w.heap.size + 1 + 1, 2, none⟩ = some (.int .u8 0) ∧ w'.frozen? ⟨w.heap.size + 1 + 1, 2, none⟩ = false ∧ w'.cell? ⟨w.heap.size + 1 + 1, 3, none⟩ = some (.int .u8 0) ∧ w'.frozen? ⟨w.heap.size + 1 + 1, 3, none⟩ = false) (fun W => W.cell? ⟨w.heap.size, 0, none⟩ = some (.int .u8 r) ∧ W.frozen? ⟨w.heap.size, 0, none⟩ = false ∧ W.cell? ⟨w.heap.size, 1, none⟩ = some (.int .u8 g) ∧ W.frozen? ⟨w.heap.size, 1, none⟩ = false ∧ W.cell? ⟨w.heap.size, 2, none⟩ = some (.int .u8 b) ∧ W.frozen? ⟨w.heap.size, 2, none⟩ = false ∧ W.cell? ⟨w.heap.size, 3, none⟩ = some (.int .u8 a) ∧ W.frozen? ⟨w.heap.size, 3, none⟩ = false ∧ W.cell? ⟨w.heap.size + 1, 0, none⟩ = some (.int .u8 s) ∧ W.frozen? ⟨w.heap.size + 1, 0, none⟩ = false ∧ W.cell? ⟨w.heap.size + 1, 1, none⟩ = some (.int .u8 t) ∧ W.frozen? ⟨w.heap.size + 1, 1, none⟩ = false ∧ W.cell? ⟨w.heap.size + 1, 2, none⟩ = some (.int .u8 u) ∧ W.frozen? ⟨w.heap.size + 1, 2, none⟩ = false ∧ W.cell? ⟨w.heap.size + 1, 3, none⟩ = some (.int .u8 d) ∧ W.frozen? ⟨w.heap.size + 1, 3, none⟩ = false ∧ W.cell? ⟨w.heap.size + 1 + 1, 0, none⟩ = some (.int .u8 0) ∧ W.frozen? ⟨w.heap.size + 1 + 1, 0, none⟩ = false ∧ W.cell? ⟨w.heap.size + 1 + 1, 1, none⟩ = some (.int .u8 0) ∧ W.frozen? ⟨w.heap.size + 1 + 1, 1, none⟩ = false ∧ W.cell? ⟨w.heap.size + 1 + 1, 2, none⟩ = some (.int .u8 0) ∧ W.frozen? ⟨w.heap.size + 1 + 1, 2, none⟩ = false ∧ W.cell? ⟨w.heap.size + 1 + 1, 3, none⟩ = some (.int .u8 0) ∧ W.frozen? ⟨w.heap.size + 1 + 1, 3, none⟩ = false ∧ Below w.heap.size w W ∧ w.heap.size + 1 + 1 + 1 ≤ W.heap.size) 4 49 [.val (.agg #[.int .u8 r, .int .u8 g, .int .u8 b, .int .u8 a]), .call 25 #[.agg #[.int .u8 r, .int .u8 g, .int .u8 b, .int .u8 a]] (.agg #[.int .u8 cr, .int .u8 cg, .int .u8 cb, .int .u8 a]), .val (.agg #[.int .u8 s, .int .u8 t, .int .u8 u, .int .u8 d]), .call 25 #[.agg #[.int .u8 s, .int .u8 t, .int .u8 u, .int .u8 d]] (.agg #[.int .u8 cs, .int .u8 ct, .int .u8 cu, .int .u8 d])] (by kernel_rfl) (by kernel_rfl) rfl (by kernel_rfl) (by rintro w1 w2 ⟨h0, h1, h2, h3, h4, h5, h6, h7, h8, h9, h10, h11, h12, h13, h14, h15, h16, h17, h18, h19, h20, h21, h22, h23⟩ hb; exact ⟨bcs hb h0, bfs hb h0 h1, bcs hb h2, bfs hb h2 h3, bcs hb h4, bfs hb h4 h5, bcs hb h6, bfs hb h6 h7, bcs hb h8, bfs hb h8 h9, bcs hb h10, bfs hb h10 h11, bcs hb h12, bfs hb h12 h13, bcs hb h14, bfs hb h14 h15, bcs hb h16, bfs hb h16 h17, bcs hb h18, bfs hb h18 h19, bcs hb h20, bfs hb h20 h21, bcs hb h22, bfs hb h22 h23⟩) ⟨by first | with_reducible assumption | go_simp, by first | with_reducible assumption | go_simp, by first | with_reducible assumption | go_simp, by first | with_reducible assumption | go_simp, by first | with_reducible assumption | go_simp, by first | with_reducible assumption | go_simp, by first | with_reducible assumption | go_simp, by first | with_reducible assumption | go_simp, by first | with_reducible assumption | go_simp, by first | with_reducible assumption | go_simp, by first | with_reducible assumption | go_simp, by first | with_reducible assumption | go_simp, by first | with_reducible assumption | go_simp, by first | with_reducible assumption | go_simp, by first | with_reducible assumption | go_simp, by first | with_reducible assumption | go_simp, by first | with_reducible assumption | go_simp, by first | with_reducible assumption | go_simp, by first | with_reducible assumption | go_simp, by first | with_reducible assumption | go_simp, by first | with_reducible assumption | go_simp, by first | with_reducible assumption | go_simp, by first | with_reducible assumption | go_simp, by first | with_reducible assumption | go_simp, by repeat (first | with_reducible exact Below.refl _ _ | fail | with_reducible apply below_drewN | with_reducible apply Below.drew | (with_reducible refine Below.alloc ?_ (by first | (simp; done) | (simp; omega) | omega) _) | (with_reducible refine Below.setCell ?_ (by first | (simp; done) | (simp; omega) | omega) _)), by first | with_reducible assumption | (simp; done) | (simp; omega)⟩ ?_ ?_
  · rintro W ⟨k1_b4_0, g1_b4_0, k1_b4_1, g1_b4_1, k1_b4_2, g1_b4_2, k1_b4_3, g1_b4_3, k1_b5_0, g1_b5_0, k1_b5_1, g1_b5_1, k1_b5_2, g1_b5_2, k1_b5_3, g1_b5_3, k1_b6_0, g1_b6_0, k1_b6_1, g1_b6_1, k1_b6_2, g1_b6_2, k1_b6_3, g1_b6_3, B1, z1⟩; exact ⟨k1_b4_0, g1_b4_0, k1_b4_1, g1_b4_1, k1_b4_2, g1_b4_2, k1_b4_3, g1_b4_3, k1_b5_0, g1_b5_0, k1_b5_1, g1_b5_1, k1_b5_2, g1_b5_2, k1_b5_3, g1_b5_3, k1_b6_0, g1_b6_0, k1_b6_1, g1_b6_1, k1_b6_2, g1_b6_2, k1_b6_3, g1_b6_3⟩
  rintro w1 ⟨k1_b4_0, g1_b4_0, k1_b4_1, g1_b4_1, k1_b4_2, g1_b4_2, k1_b4_3, g1_b4_3, k1_b5_0, g1_b5_0, k1_b5_1, g1_b5_1, k1_b5_2, g1_b5_2, k1_b5_3, g1_b5_3, k1_b6_0, g1_b6_0, k1_b6_1, g1_b6_1, k1_b6_2, g1_b6_2, k1_b6_3, g1_b6_3, B1, z1⟩ gg
  simp only [List.take_succ_cons, List.take_zero, List.drop_succ_cons, List.drop_zero, List.cons_append, List.nil_append, List.append_nil]
  refine obe_val (by rfl) ?_ ?_
  · clear k1_b4_0 g1_b4_0 k1_b4_1 g1_b4_1 k1_b4_2 g1_b4_2 k1_b4_3 g1_b4_3 k1_b5_0 g1_b5_0 k1_b5_1 g1_b5_1 k1_b5_2 g1_b5_2 k1_b5_3 g1_b5_3 k1_b6_0 g1_b6_0 k1_b6_1 g1_b6_1 k1_b6_2 g1_b6_2 k1_b6_3 g1_b6_3 B1 z1; intro f hf; have u4 : f 4 = (.pointer (some ⟨w.heap.size, 0, none⟩)) := (by rw [← hf]; rfl); clear hf; rintro w' ⟨h0, h1, h2, h3, h4, h5, h6, h7, h8, h9, h10, h11, h12, h13, h14, h15, h16, h17, h18, h19, h20, h21, h22, h23⟩; go_simp; try exact IntWalk.i64_in _ (by omega)
  refine obe_call (by rfl) ?_ ?_ ?_
  · clear k1_b4_0 g1_b4_0 k1_b4_1 g1_b4_1 k1_b4_2 g1_b4_2 k1_b4_3 g1_b4_3 k1_b5_0 g1_b5_0 k1_b5_1 g1_b5_1 k1_b5_2 g1_b5_2 k1_b5_3 g1_b5_3 k1_b6_0 g1_b6_0 k1_b6_1 g1_b6_1 k1_b6_2 g1_b6_2 k1_b6_3 g1_b6_3 B1 z1; intro f hf; have u10 : f 10 = (.agg #[.int .u8 r, .int .u8 g, .int .u8 b, .int .u8 a]) := (by rw [← hf]; rfl); clear hf; intro w' _; simp only [execOp, resolve, invoke, rhoF_tmp, rhoF_func, rhoF_const, u10, List.map_toArray, List.map_cons, List.map_nil]; go_simp
  · clear k1_b4_0 g1_b4_0 k1_b4_1 g1_b4_1 k1_b4_2 g1_b4_2 k1_b4_3 g1_b4_3 k1_b5_0 g1_b5_0 k1_b5_1 g1_b5_1 k1_b5_2 g1_b5_2 k1_b5_3 g1_b5_3 k1_b6_0 g1_b6_0 k1_b6_1 g1_b6_1 k1_b6_2 g1_b6_2 k1_b6_3 g1_b6_3 B1 z1; rintro w' ⟨h0, h1, h2, h3, h4, h5, h6, h7, h8, h9, h10, h11, h12, h13, h14, h15, h16, h17, h18, h19, h20, h21, h22, h23⟩; exact pclamp_any r g b a cr cg cb hr hg hb _
  refine obe_val (by rfl) ?_ ?_
  · clear k1_b4_0 g1_b4_0 k1_b4_1 g1_b4_1 k1_b4_2 g1_b4_2 k1_b4_3 g1_b4_3 k1_b5_0 g1_b5_0 k1_b5_1 g1_b5_1 k1_b5_2 g1_b5_2 k1_b5_3 g1_b5_3 k1_b6_0 g1_b6_0 k1_b6_1 g1_b6_1 k1_b6_2 g1_b6_2 k1_b6_3 g1_b6_3 B1 z1; intro f hf; have u5 : f 5 = (.pointer (some ⟨w.heap.size + 1, 0, none⟩)) := (by rw [← hf]; rfl); clear hf; rintro w' ⟨h0, h1, h2, h3, h4, h5, h6, h7, h8, h9, h10, h11, h12, h13, h14, h15, h16, h17, h18, h19, h20, h21, h22, h23⟩; go_simp; try exact IntWalk.i64_in _ (by omega)
  refine obe_call (by rfl) ?_ ?_ ?_
  · clear k1_b4_0 g1_b4_0 k1_b4_1 g1_b4_1 k1_b4_2 g1_b4_2 k1_b4_3 g1_b4_3 k1_b5_0 g1_b5_0 k1_b5_1 g1_b5_1 k1_b5_2 g1_b5_2 k1_b5_3 g1_b5_3 k1_b6_0 g1_b6_0 k1_b6_1 g1_b6_1 k1_b6_2 g1_b6_2 k1_b6_3 g1_b6_3 B1 z1; intro f hf; have u12 : f 12 = (.agg #[.int .u8 s, .int .u8 t, .int .u8 u, .int .u8 d]) := (by rw [← hf]; rfl); clear hf; intro w' _; simp only [execOp, resolve, invoke, rhoF_tmp, rhoF_func, rhoF_const, u12, List.map_toArray, List.map_cons, List.map_nil]; go_simp
  · clear k1_b4_0 g1_b4_0 k1_b4_1 g1_b4_1 k1_b4_2 g1_b4_2 k1_b4_3 g1_b4_3 k1_b5_0 g1_b5_0 k1_b5_1 g1_b5_1 k1_b5_2 g1_b5_2 k1_b5_3 g1_b5_3 k1_b6_0 g1_b6_0 k1_b6_1 g1_b6_1 k1_b6_2 g1_b6_2 k1_b6_3 g1_b6_3 B1 z1; rintro w' ⟨h0, h1, h2, h3, h4, h5, h6, h7, h8, h9, h10, h11, h12, h13, h14, h15, h16, h17, h18, h19, h20, h21, h22, h23⟩; exact pclamp_any s t u d cs ct cu hs ht hu _
  refine obe_nil ?_
  rintro w2 ⟨h0, h1, h2, h3, h4, h5, h6, h7, h8, h9, h10, h11, h12, h13, h14, h15, h16, h17, h18, h19, h20, h21, h22, h23⟩ hb2 hF
  (try simp only [List.nil_append, List.append_nil, List.cons_append] at hF)
  simp only [puts, putD, Act.put, List.setIfInBounds_toArray, List.set_cons_zero, List.set_cons_succ]
  clear hF
  have k2_b4_0 := bcs hb2 k1_b4_0
  have g2_b4_0 := bfs hb2 k1_b4_0 g1_b4_0
  have k2_b4_1 := bcs hb2 k1_b4_1
  have g2_b4_1 := bfs hb2 k1_b4_1 g1_b4_1
  have k2_b4_2 := bcs hb2 k1_b4_2
  have g2_b4_2 := bfs hb2 k1_b4_2 g1_b4_2
  have k2_b4_3 := bcs hb2 k1_b4_3
  have g2_b4_3 := bfs hb2 k1_b4_3 g1_b4_3
  have k2_b5_0 := bcs hb2 k1_b5_0
  have g2_b5_0 := bfs hb2 k1_b5_0 g1_b5_0
  have k2_b5_1 := bcs hb2 k1_b5_1
  have g2_b5_1 := bfs hb2 k1_b5_1 g1_b5_1
  have k2_b5_2 := bcs hb2 k1_b5_2
  have g2_b5_2 := bfs hb2 k1_b5_2 g1_b5_2
  have k2_b5_3 := bcs hb2 k1_b5_3
  have g2_b5_3 := bfs hb2 k1_b5_3 g1_b5_3
  have k2_b6_0 := bcs hb2 k1_b6_0
  have g2_b6_0 := bfs hb2 k1_b6_0 g1_b6_0
  have k2_b6_1 := bcs hb2 k1_b6_1
  have g2_b6_1 := bfs hb2 k1_b6_1 g1_b6_1
  have k2_b6_2 := bcs hb2 k1_b6_2
  have g2_b6_2 := bfs hb2 k1_b6_2 g1_b6_2
  have k2_b6_3 := bcs hb2 k1_b6_3
  have g2_b6_3 := bfs hb2 k1_b6_3 g1_b6_3
  clear h0 h1 h2 h3 h4 h5 h6 h7 h8 h9 h10 h11 h12 h13 h14 h15 h16 h17 h18 h19 h20 h21 h22 h23
  have B2 := bel_step B1 hb2
  have z2 := Nat.le_trans z1 hb2.size
  clear hb2
  (try clear B1)
  (try clear z1)
  (try clear k1_b4_0)
  (try clear g1_b4_0)
  (try clear k1_b4_1)
  (try clear g1_b4_1)
  (try clear k1_b4_2)
  (try clear g1_b4_2)
  (try clear k1_b4_3)
  (try clear g1_b4_3)
  (try clear k1_b5_0)
  (try clear g1_b5_0)
  (try clear k1_b5_1)
  (try clear g1_b5_1)
  (try clear k1_b5_2)
  (try clear g1_b5_2)
  (try clear k1_b5_3)
  (try clear g1_b5_3)
  (try clear k1_b6_0)
  (try clear g1_b6_0)
  (try clear k1_b6_1)
  (try clear g1_b6_1)
  (try clear k1_b6_2)
  (try clear g1_b6_2)
  (try clear k1_b6_3)
  (try clear g1_b6_3)
  (try clear q1_b4)
  (try clear x1_b4)
  (try clear y1_b4)
  (try clear q1_b5)
  (try clear x1_b5)
  (try clear y1_b5)
  (try clear q1_b6)
  (try clear x1_b6)
  (try clear y1_b6)
  have q2_b4 : w.heap.size < w2.heap.size := qlt k2_b4_0
  have x2_b4 : ¬ w.heap.size = w2.heap.size := qne k2_b4_0
  have y2_b4 : ¬ w2.heap.size = w.heap.size := fun h => qne k2_b4_0 h.symm
  have q2_b5 : w.heap.size + 1 < w2.heap.size := qlt k2_b5_0
  have x2_b5 : ¬ w.heap.size + 1 = w2.heap.size := qne k2_b5_0
  have y2_b5 : ¬ w2.heap.size = w.heap.size + 1 := fun h => qne k2_b5_0 h.symm
  have q2_b6 : w.heap.size + 1 + 1 < w2.heap.size := qlt k2_b6_0
  have x2_b6 : ¬ w.heap.size + 1 + 1 = w2.heap.size := qne k2_b6_0
  have y2_b6 : ¬ w2.heap.size = w.heap.size + 1 + 1 := fun h => qne k2_b6_0 h.symm
  go_wp2_with (first | (go_at_call 10; (with_reducible refine (cf _).mono ?_); rintro e w3 ⟨rfl, hb3⟩; have k3_b4_0 : w3.cell? ⟨w.heap.size, 0, none⟩ = some (.int .u8 cr) := bcs hb3 (by go_simp); have g3_b4_0 : w3.frozen? ⟨w.heap.size, 0, none⟩ = false := bfs hb3 (v := .int .u8 cr) (by go_simp) (by go_simp); have k3_b4_1 : w3.cell? ⟨w.heap.size, 1, none⟩ = some (.int .u8 cg) := bcs hb3 (by go_simp); have g3_b4_1 : w3.frozen? ⟨w.heap.size, 1, none⟩ = false := bfs hb3 (v := .int .u8 cg) (by go_simp) (by go_simp); have k3_b4_2 : w3.cell? ⟨w.heap.size, 2, none⟩ = some (.int .u8 cb) := bcs hb3 (by go_simp); have g3_b4_2 : w3.frozen? ⟨w.heap.size, 2, none⟩ = false := bfs hb3 (v := .int .u8 cb) (by go_simp) (by go_simp); have k3_b4_3 : w3.cell? ⟨w.heap.size, 3, none⟩ = some (.int .u8 a) := bcs hb3 (by go_simp); have g3_b4_3 : w3.frozen? ⟨w.heap.size, 3, none⟩ = false := bfs hb3 (v := .int .u8 a) (by go_simp) (by go_simp); have k3_b5_0 : w3.cell? ⟨w.heap.size + 1, 0, none⟩ = some (.int .u8 cs) := bcs hb3 (by go_simp); have g3_b5_0 : w3.frozen? ⟨w.heap.size + 1, 0, none⟩ = false := bfs hb3 (v := .int .u8 cs) (by go_simp) (by go_simp); have k3_b5_1 : w3.cell? ⟨w.heap.size + 1, 1, none⟩ = some (.int .u8 ct) := bcs hb3 (by go_simp); have g3_b5_1 : w3.frozen? ⟨w.heap.size + 1, 1, none⟩ = false := bfs hb3 (v := .int .u8 ct) (by go_simp) (by go_simp); have k3_b5_2 : w3.cell? ⟨w.heap.size + 1, 2, none⟩ = some (.int .u8 cu) := bcs hb3 (by go_simp); have g3_b5_2 : w3.frozen? ⟨w.heap.size + 1, 2, none⟩ = false := bfs hb3 (v := .int .u8 cu) (by go_simp) (by go_simp); have k3_b5_3 : w3.cell? ⟨w.heap.size + 1, 3, none⟩ = some (.int .u8 d) := bcs hb3 (by go_simp); have g3_b5_3 : w3.frozen? ⟨w.heap.size + 1, 3, none⟩ = false := bfs hb3 (v := .int .u8 d) (by go_simp) (by go_simp); have k3_b6_0 : w3.cell? ⟨w.heap.size + 1 + 1, 0, none⟩ = some (.int .u8 0) := bcs hb3 (by go_simp); have g3_b6_0 : w3.frozen? ⟨w.heap.size + 1 + 1, 0, none⟩ = false := bfs hb3 (v := .int .u8 0) (by go_simp) (by go_simp); have k3_b6_1 : w3.cell? ⟨w.heap.size + 1 + 1, 1, none⟩ = some (.int .u8 0) := bcs hb3 (by go_simp); have g3_b6_1 : w3.frozen? ⟨w.heap.size + 1 + 1, 1, none⟩ = false := bfs hb3 (v := .int .u8 0) (by go_simp) (by go_simp); have k3_b6_2 : w3.cell? ⟨w.heap.size + 1 + 1, 2, none⟩ = some (.int .u8 0) := bcs hb3 (by go_simp); have g3_b6_2 : w3.frozen? ⟨w.heap.size + 1 + 1, 2, none⟩ = false := bfs hb3 (v := .int .u8 0) (by go_simp) (by go_simp); have k3_b6_3 : w3.cell? ⟨w.heap.size + 1 + 1, 3, none⟩ = some (.int .u8 0) := bcs hb3 (by go_simp); have g3_b6_3 : w3.frozen? ⟨w.heap.size + 1 + 1, 3, none⟩ = false := bfs hb3 (v := .int .u8 0) (by go_simp) (by go_simp); have q3_b4 : w.heap.size < w3.heap.size := qlt k3_b4_0; have x3_b4 : ¬ w.heap.size = w3.heap.size := qne k3_b4_0; have y3_b4 : ¬ w3.heap.size = w.heap.size := fun h => qne k3_b4_0 h.symm; have q3_b5 : w.heap.size + 1 < w3.heap.size := qlt k3_b5_0; have x3_b5 : ¬ w.heap.size + 1 = w3.heap.size := qne k3_b5_0; have y3_b5 : ¬ w3.heap.size = w.heap.size + 1 := fun h => qne k3_b5_0 h.symm; have q3_b6 : w.heap.size + 1 + 1 < w3.heap.size := qlt k3_b6_0; have x3_b6 : ¬ w.heap.size + 1 + 1 = w3.heap.size := qne k3_b6_0; have y3_b6 : ¬ w3.heap.size = w.heap.size + 1 + 1 := fun h => qne k3_b6_0 h.symm; have B3 : Below w.heap.size w w3 := bel_step (by repeat (first | with_reducible exact Below.refl _ _ | with_reducible exact B2 | with_reducible apply below_drewN | with_reducible apply Below.drew | (with_reducible refine Below.alloc ?_ (by first | (simp; done) | (simp; omega) | omega) _) | (with_reducible refine Below.setCell ?_ (by first | (simp; done) | (simp; omega) | omega) _))) hb3; have z3 : w.heap.size + 1 + 1 + 1 ≤ w3.heap.size := Nat.le_trans (by first | with_reducible assumption | (simp; done) | (simp; omega)) hb3.size; clear hb3; (try clear k2_b4_0); (try clear g2_b4_0); (try clear k2_b4_1); (try clear g2_b4_1); (try clear k2_b4_2); (try clear g2_b4_2); (try clear k2_b4_3); (try clear g2_b4_3); (try clear k2_b5_0); (try clear g2_b5_0); (try clear k2_b5_1); (try clear g2_b5_1); (try clear k2_b5_2); (try clear g2_b5_2); (try clear k2_b5_3); (try clear g2_b5_3); (try clear k2_b6_0); (try clear g2_b6_0); (try clear k2_b6_1); (try clear g2_b6_1); (try clear k2_b6_2); (try clear g2_b6_2); (try clear k2_b6_3); (try clear g2_b6_3); (try clear B2); (try clear z2); (try clear q2_b4); (try clear x2_b4); (try clear y2_b4); (try clear q2_b5); (try clear x2_b5); (try clear y2_b5); (try clear q2_b6); (try clear x2_b6); (try clear y2_b6)))
  refine wp_region_env (fun w' => w'.cell? ⟨w.heap.size, 0, none⟩ = some (.int .u8 cr) ∧ w'.frozen? ⟨w.heap.size, 0, none⟩ = false ∧ w'.cell? ⟨w.heap.size, 1, none⟩ = some (.int .u8 cg) ∧ w'.frozen? ⟨w.heap.size, 1, none⟩ = false ∧ w'.cell? ⟨w.heap.size, 2, none⟩ = some (.int .u8 cb) ∧ w'.frozen? ⟨w.heap.size, 2, none⟩ = false ∧ w'.cell? ⟨w.heap.size, 3, none⟩ = some (.int .u8 a) ∧ w'.frozen? ⟨w.heap.size, 3, none⟩ = false ∧ w'.cell? ⟨w.heap.size + 1, 0, none⟩ = some (.int .u8 cs) ∧ w'.frozen? ⟨w.heap.size + 1, 0, none⟩ = false ∧ w'.cell? ⟨w.heap.size + 1, 1, none⟩ = some (.int .u8 ct) ∧ w'.frozen? ⟨w.heap.size + 1, 1, none⟩ = false ∧ w'.cell? ⟨w.heap.size + 1, 2, none⟩ = some (.int .u8 cu) ∧ w'.frozen? ⟨w.heap.size + 1, 2, none⟩ = false ∧ w'.cell? ⟨w.heap.size + 1, 3, none⟩ = some (.int .u8 d) ∧ w'.frozen? ⟨w.heap.size + 1, 3, none⟩ = false ∧ w'.cell? ⟨w.heap.size + 1 + 1, 0, none⟩ = some (.int .u8 0) ∧ w'.frozen? ⟨w.heap.size + 1 + 1, 0, none⟩ = false ∧ w'.cell? ⟨w.heap.size + 1 + 1, 1, none⟩ = some (.int .u8 0) ∧ w'.frozen? ⟨w.heap.size + 1 + 1, 1, none⟩ = false ∧ w'.cell? ⟨w.heap.size + 1 + 1, 2, none⟩ = some (.int .u8 0) ∧ w'.frozen? ⟨w.heap.size + 1 + 1, 2, none⟩ = false ∧ w'.cell? ⟨w.heap.size + 1 + 1, 3, none⟩ = some (.int .u8 0) ∧ w'.frozen? ⟨w.heap.size + 1 + 1, 3, none⟩ = false ∧ w'.cell? ⟨w3.heap.size, 0, none⟩ = some (.int .i64 f1) ∧ w'.frozen? ⟨w3.heap.size, 0, none⟩ = false ∧ w'.cell? ⟨w3.heap.size + 1, 0, none⟩ = some (.int .i64 f2) ∧ w'.frozen? ⟨w3.heap.size + 1, 0, none⟩ = false) (fun W => W.cell? ⟨w.heap.size, 0, none⟩ = some (.int .u8 cr) ∧ W.frozen? ⟨w.heap.size, 0, none⟩ = false ∧ W.cell? ⟨w.heap.size, 1, none⟩ = some (.int .u8 cg) ∧ W.frozen? ⟨w.heap.size, 1, none⟩ = false ∧ W.cell? ⟨w.heap.size, 2, none⟩ = some (.int .u8 cb) ∧ W.frozen? ⟨w.heap.size, 2, none⟩ = false ∧ W.cell? ⟨w.heap.size, 3, none⟩ = some (.int .u8 a) ∧ W.frozen? ⟨w.heap.size, 3, none⟩ = false ∧ W.cell? ⟨w.heap.size + 1, 0, none⟩ = some (.int .u8 cs) ∧ W.frozen? ⟨w.heap.size + 1, 0, none⟩ = false ∧ W.cell? ⟨w.heap.size + 1, 1, none⟩ = some (.int .u8 ct) ∧ W.frozen? ⟨w.heap.size + 1, 1, none⟩ = false ∧ W.cell? ⟨w.heap.size + 1, 2, none⟩ = some (.int .u8 cu) ∧ W.frozen? ⟨w.heap.size + 1, 2, none⟩ = false ∧ W.cell? ⟨w.heap.size + 1, 3, none⟩ = some (.int .u8 d) ∧ W.frozen? ⟨w.heap.size + 1, 3, none⟩ = false ∧ W.cell? ⟨w.heap.size + 1 + 1, 0, none⟩ = some (.int .u8 0) ∧ W.frozen? ⟨w.heap.size + 1 + 1, 0, none⟩ = false ∧ W.cell? ⟨w.heap.size + 1 + 1, 1, none⟩ = some (.int .u8 0) ∧ W.frozen? ⟨w.heap.size + 1 + 1, 1, none⟩ = false ∧ W.cell? ⟨w.heap.size + 1 + 1, 2, none⟩ = some (.int .u8 0) ∧ W.frozen? ⟨w.heap.size + 1 + 1, 2, none⟩ = false ∧ W.cell? ⟨w.heap.size + 1 + 1, 3, none⟩ = some (.int .u8 0) ∧ W.frozen? ⟨w.heap.size + 1 + 1, 3, none⟩ = false ∧ W.cell? ⟨w3.heap.size, 0, none⟩ = some (.int .i64 f1) ∧ W.frozen? ⟨w3.heap.size, 0, none⟩ = false ∧ W.cell? ⟨w3.heap.size + 1, 0, none⟩ = some (.int .i64 f2) ∧ W.frozen? ⟨w3.heap.size + 1, 0, none⟩ = false ∧ Below w.heap.size w W ∧ w.heap.size + 1 + 1 + 1 ≤ W.heap.size) 25 49 [.val (.func (.func 26) #[] #[.pointer (some ⟨w3.heap.size, 0, none⟩), .pointer (some ⟨w3.heap.size + 1, 0, none⟩)]), .val (.pointer (some ⟨w.heap.size, 0, none⟩)), .val (.int .u8 cr), .val (.pointer (some ⟨w.heap.size + 1, 0, none⟩)), .val (.int .u8 cs), .call 26 #[.int .u8 cr, .int .u8 cs, .pointer (some ⟨w3.heap.size, 0, none⟩), .pointer (some ⟨w3.heap.size + 1, 0, none⟩)] (.int .u8 l0), .val (.func (.func 26) #[] #[.pointer (some ⟨w3.heap.size, 0, none⟩), .pointer (some ⟨w3.heap.size + 1, 0, none⟩)]), .val (.pointer (some ⟨w.heap.size, 1, none⟩)), .val (.int .u8 cg), .val (.pointer (some ⟨w.heap.size + 1, 1, none⟩)), .val (.int .u8 ct), .call 26 #[.int .u8 cg, .int .u8 ct, .pointer (some ⟨w3.heap.size, 0, none⟩), .pointer (some ⟨w3.heap.size + 1, 0, none⟩)] (.int .u8 l1), .val (.func (.func 26) #[] #[.pointer (some ⟨w3.heap.size, 0, none⟩), .pointer (some ⟨w3.heap.size + 1, 0, none⟩)]), .val (.pointer (some ⟨w.heap.size, 2, none⟩)), .val (.int .u8 cb), .val (.pointer (some ⟨w.heap.size + 1, 2, none⟩)), .val (.int .u8 cu), .call 26 #[.int .u8 cb, .int .u8 cu, .pointer (some ⟨w3.heap.size, 0, none⟩), .pointer (some ⟨w3.heap.size + 1, 0, none⟩)] (.int .u8 l2), .val (.func (.func 26) #[] #[.pointer (some ⟨w3.heap.size, 0, none⟩), .pointer (some ⟨w3.heap.size + 1, 0, none⟩)]), .val (.pointer (some ⟨w.heap.size, 3, none⟩)), .val (.int .u8 a), .val (.pointer (some ⟨w.heap.size + 1, 3, none⟩)), .val (.int .u8 d), .call 26 #[.int .u8 a, .int .u8 d, .pointer (some ⟨w3.heap.size, 0, none⟩), .pointer (some ⟨w3.heap.size + 1, 0, none⟩)] (.int .u8 l3), .val (.agg #[.int .u8 l0, .int .u8 l1, .int .u8 l2, .int .u8 l3])] (by kernel_rfl) (by kernel_rfl) rfl (by kernel_rfl) (by rintro w1 w2 ⟨h0, h1, h2, h3, h4, h5, h6, h7, h8, h9, h10, h11, h12, h13, h14, h15, h16, h17, h18, h19, h20, h21, h22, h23, h24, h25, h26, h27⟩ hb; exact ⟨bcs hb h0, bfs hb h0 h1, bcs hb h2, bfs hb h2 h3, bcs hb h4, bfs hb h4 h5, bcs hb h6, bfs hb h6 h7, bcs hb h8, bfs hb h8 h9, bcs hb h10, bfs hb h10 h11, bcs hb h12, bfs hb h12 h13, bcs hb h14, bfs hb h14 h15, bcs hb h16, bfs hb h16 h17, bcs hb h18, bfs hb h18 h19, bcs hb h20, bfs hb h20 h21, bcs hb h22, bfs hb h22 h23, bcs hb h24, bfs hb h24 h25, bcs hb h26, bfs hb h26 h27⟩) ⟨by first | with_reducible assumption | go_simp, by first | with_reducible assumption | go_simp, by first | with_reducible assumption | go_simp, by first | with_reducible assumption | go_simp, by first | with_reducible assumption | go_simp, by first | with_reducible assumption | go_simp, by first | with_reducible assumption | go_simp, by first | with_reducible assumption | go_simp, by first | with_reducible assumption | go_simp, by first | with_reducible assumption | go_simp, by first | with_reducible assumption | go_simp, by first | with_reducible assumption | go_simp, by first | with_reducible assumption | go_simp, by first | with_reducible assumption | go_simp, by first | with_reducible assumption | go_simp, by first | with_reducible assumption | go_simp, by first | with_reducible assumption | go_simp, by first | with_reducible assumption | go_simp, by first | with_reducible assumption | go_simp, by first | with_reducible assumption | go_simp, by first | with_reducible assumption | go_simp, by first | with_reducible assumption | go_simp, by first | with_reducible assumption | go_simp, by first | with_reducible assumption | go_simp, by first | with_reducible assumption | go_simp, by first | with_reducible assumption | go_simp, by first | with_reducible assumption | go_simp, by first | with_reducible assumption | go_simp, by repeat (first | with_reducible exact Below.refl _ _ | with_reducible exact B3 | with_reducible apply below_drewN | with_reducible apply Below.drew | (with_reducible refine Below.alloc ?_ (by first | (simp; done) | (simp; omega) | omega) _) | (with_reducible refine Below.setCell ?_ (by first | (simp; done) | (simp; omega) | omega) _)), by first | with_reducible assumption | (simp; done) | (simp; omega)⟩ ?_ ?_
  · rintro W ⟨k4_b4_0, g4_b4_0, k4_b4_1, g4_b4_1, k4_b4_2, g4_b4_2, k4_b4_3, g4_b4_3, k4_b5_0, g4_b5_0, k4_b5_1, g4_b5_1, k4_b5_2, g4_b5_2, k4_b5_3, g4_b5_3, k4_b6_0, g4_b6_0, k4_b6_1, g4_b6_1, k4_b6_2, g4_b6_2, k4_b6_3, g4_b6_3, k4_g7_0, g4_g7_0, k4_g8_0, g4_g8_0, B4, z4⟩; exact ⟨k4_b4_0, g4_b4_0, k4_b4_1, g4_b4_1, k4_b4_2, g4_b4_2, k4_b4_3, g4_b4_3, k4_b5_0, g4_b5_0, k4_b5_1, g4_b5_1, k4_b5_2, g4_b5_2, k4_b5_3, g4_b5_3, k4_b6_0, g4_b6_0, k4_b6_1, g4_b6_1, k4_b6_2, g4_b6_2, k4_b6_3, g4_b6_3, k4_g7_0, g4_g7_0, k4_g8_0, g4_g8_0⟩
  (try clear B3)
  (try clear z3)
  (try clear k3_b4_0)
  (try clear g3_b4_0)
  (try clear k3_b4_1)
  (try clear g3_b4_1)
  (try clear k3_b4_2)
  (try clear g3_b4_2)
  (try clear k3_b4_3)
  (try clear g3_b4_3)
  (try clear k3_b5_0)
  (try clear g3_b5_0)
  (try clear k3_b5_1)
  (try clear g3_b5_1)
  (try clear k3_b5_2)
  (try clear g3_b5_2)
  (try clear k3_b5_3)
  (try clear g3_b5_3)
  (try clear k3_b6_0)
  (try clear g3_b6_0)
  (try clear k3_b6_1)
  (try clear g3_b6_1)
  (try clear k3_b6_2)
  (try clear g3_b6_2)
  (try clear k3_b6_3)
  (try clear g3_b6_3)
  (try clear k3_g7_0)
  (try clear g3_g7_0)
  (try clear k3_g8_0)
  (try clear g3_g8_0)
  (try clear q3_b4)
  (try clear x3_b4)
  (try clear y3_b4)
  (try clear q3_b5)
  (try clear x3_b5)
  (try clear y3_b5)
  (try clear q3_b6)
  (try clear x3_b6)
  (try clear y3_b6)
  (try clear q3_g7)
  (try clear x3_g7)
  (try clear y3_g7)
  (try clear q3_g8)
  (try clear x3_g8)
  (try clear y3_g8)
  rintro w4 ⟨k4_b4_0, g4_b4_0, k4_b4_1, g4_b4_1, k4_b4_2, g4_b4_2, k4_b4_3, g4_b4_3, k4_b5_0, g4_b5_0, k4_b5_1, g4_b5_1, k4_b5_2, g4_b5_2, k4_b5_3, g4_b5_3, k4_b6_0, g4_b6_0, k4_b6_1, g4_b6_1, k4_b6_2, g4_b6_2, k4_b6_3, g4_b6_3, k4_g7_0, g4_g7_0, k4_g8_0, g4_g8_0, B4, z4⟩ gg
  simp only [List.take_succ_cons, List.take_zero, List.drop_succ_cons, List.drop_zero, List.cons_append, List.nil_append, List.append_nil]
  refine obe_val (by rfl) ?_ ?_
  · clear k4_b4_0 g4_b4_0 k4_b4_1 g4_b4_1 k4_b4_2 g4_b4_2 k4_b4_3 g4_b4_3 k4_b5_0 g4_b5_0 k4_b5_1 g4_b5_1 k4_b5_2 g4_b5_2 k4_b5_3 g4_b5_3 k4_b6_0 g4_b6_0 k4_b6_1 g4_b6_1 k4_b6_2 g4_b6_2 k4_b6_3 g4_b6_3 k4_g7_0 g4_g7_0 k4_g8_0 g4_g8_0 B4 z4; intro f hf; have u9 : f 9 = (.func (.func 26) #[] #[.pointer (some ⟨w3.heap.size, 0, none⟩), .pointer (some ⟨w3.heap.size + 1, 0, none⟩)]) := (by rw [← hf]; rfl); clear hf; rintro w' ⟨h0, h1, h2, h3, h4, h5, h6, h7, h8, h9, h10, h11, h12, h13, h14, h15, h16, h17, h18, h19, h20, h21, h22, h23, h24, h25, h26, h27⟩; go_simp; try exact IntWalk.i64_in _ (by omega)
  refine obe_val (by rfl) ?_ ?_
  · clear k4_b4_0 g4_b4_0 k4_b4_1 g4_b4_1 k4_b4_2 g4_b4_2 k4_b4_3 g4_b4_3 k4_b5_0 g4_b5_0 k4_b5_1 g4_b5_1 k4_b5_2 g4_b5_2 k4_b5_3 g4_b5_3 k4_b6_0 g4_b6_0 k4_b6_1 g4_b6_1 k4_b6_2 g4_b6_2 k4_b6_3 g4_b6_3 k4_g7_0 g4_g7_0 k4_g8_0 g4_g8_0 B4 z4; intro f hf; have u4 : f 4 = (.pointer (some ⟨w.heap.size, 0, none⟩)) := (by rw [← hf]; rfl); clear hf; rintro w' ⟨h0, h1, h2, h3, h4, h5, h6, h7, h8, h9, h10, h11, h12, h13, h14, h15, h16, h17, h18, h19, h20, h21, h22, h23, h24, h25, h26, h27⟩; go_simp; try exact IntWalk.i64_in _ (by omega)
  refine obe_val (by rfl) ?_ ?_
  · clear k4_b4_0 g4_b4_0 k4_b4_1 g4_b4_1 k4_b4_2 g4_b4_2 k4_b4_3 g4_b4_3 k4_b5_0 g4_b5_0 k4_b5_1 g4_b5_1 k4_b5_2 g4_b5_2 k4_b5_3 g4_b5_3 k4_b6_0 g4_b6_0 k4_b6_1 g4_b6_1 k4_b6_2 g4_b6_2 k4_b6_3 g4_b6_3 k4_g7_0 g4_g7_0 k4_g8_0 g4_g8_0 B4 z4; intro f hf; have u25 : f 25 = (.pointer (some ⟨w.heap.size, 0, none⟩)) := (by rw [← hf]; rfl); clear hf; rintro w' ⟨h0, h1, h2, h3, h4, h5, h6, h7, h8, h9, h10, h11, h12, h13, h14, h15, h16, h17, h18, h19, h20, h21, h22, h23, h24, h25, h26, h27⟩; go_simp; try exact IntWalk.i64_in _ (by omega)
  refine obe_val (by rfl) ?_ ?_
  · clear k4_b4_0 g4_b4_0 k4_b4_1 g4_b4_1 k4_b4_2 g4_b4_2 k4_b4_3 g4_b4_3 k4_b5_0 g4_b5_0 k4_b5_1 g4_b5_1 k4_b5_2 g4_b5_2 k4_b5_3 g4_b5_3 k4_b6_0 g4_b6_0 k4_b6_1 g4_b6_1 k4_b6_2 g4_b6_2 k4_b6_3 g4_b6_3 k4_g7_0 g4_g7_0 k4_g8_0 g4_g8_0 B4 z4; intro f hf; have u5 : f 5 = (.pointer (some ⟨w.heap.size + 1, 0, none⟩)) := (by rw [← hf]; rfl); clear hf; rintro w' ⟨h0, h1, h2, h3, h4, h5, h6, h7, h8, h9, h10, h11, h12, h13, h14, h15, h16, h17, h18, h19, h20, h21, h22, h23, h24, h25, h26, h27⟩; go_simp; try exact IntWalk.i64_in _ (by omega)
  refine obe_val (by rfl) ?_ ?_
  · clear k4_b4_0 g4_b4_0 k4_b4_1 g4_b4_1 k4_b4_2 g4_b4_2 k4_b4_3 g4_b4_3 k4_b5_0 g4_b5_0 k4_b5_1 g4_b5_1 k4_b5_2 g4_b5_2 k4_b5_3 g4_b5_3 k4_b6_0 g4_b6_0 k4_b6_1 g4_b6_1 k4_b6_2 g4_b6_2 k4_b6_3 g4_b6_3 k4_g7_0 g4_g7_0 k4_g8_0 g4_g8_0 B4 z4; intro f hf; have u27 : f 27 = (.pointer (some ⟨w.heap.size + 1, 0, none⟩)) := (by rw [← hf]; rfl); clear hf; rintro w' ⟨h0, h1, h2, h3, h4, h5, h6, h7, h8, h9, h10, h11, h12, h13, h14, h15, h16, h17, h18, h19, h20, h21, h22, h23, h24, h25, h26, h27⟩; go_simp; try exact IntWalk.i64_in _ (by omega)
  refine obe_call (by rfl) ?_ ?_ ?_
  · clear k4_b4_0 g4_b4_0 k4_b4_1 g4_b4_1 k4_b4_2 g4_b4_2 k4_b4_3 g4_b4_3 k4_b5_0 g4_b5_0 k4_b5_1 g4_b5_1 k4_b5_2 g4_b5_2 k4_b5_3 g4_b5_3 k4_b6_0 g4_b6_0 k4_b6_1 g4_b6_1 k4_b6_2 g4_b6_2 k4_b6_3 g4_b6_3 k4_g7_0 g4_g7_0 k4_g8_0 g4_g8_0 B4 z4; intro f hf; have u24 : f 24 = (.func (.func 26) #[] #[.pointer (some ⟨w3.heap.size, 0, none⟩), .pointer (some ⟨w3.heap.size + 1, 0, none⟩)]) := (by rw [← hf]; rfl); have u26 : f 26 = (.int .u8 cr) := (by rw [← hf]; rfl); have u28 : f 28 = (.int .u8 cs) := (by rw [← hf]; rfl); clear hf; intro w' _; simp only [execOp, resolve, invoke, rhoF_tmp, rhoF_func, rhoF_const, u24, u26, u28, List.map_toArray, List.map_cons, List.map_nil]; go_simp
  · clear k4_b4_0 g4_b4_0 k4_b4_1 g4_b4_1 k4_b4_2 g4_b4_2 k4_b4_3 g4_b4_3 k4_b5_0 g4_b5_0 k4_b5_1 g4_b5_1 k4_b5_2 g4_b5_2 k4_b5_3 g4_b5_3 k4_b6_0 g4_b6_0 k4_b6_1 g4_b6_1 k4_b6_2 g4_b6_2 k4_b6_3 g4_b6_3 k4_g7_0 g4_g7_0 k4_g8_0 g4_g8_0 B4 z4; rintro w' ⟨h0, h1, h2, h3, h4, h5, h6, h7, h8, h9, h10, h11, h12, h13, h14, h15, h16, h17, h18, h19, h20, h21, h22, h23, h24, h25, h26, h27⟩; exact (cc0 _ _ _ (by assumption) (by assumption)).mono (by rintro e w2 ⟨rfl, rfl⟩; exact ⟨rfl, Below.refl _ _⟩)
  refine obe_val (by rfl) ?_ ?_
  · clear k4_b4_0 g4_b4_0 k4_b4_1 g4_b4_1 k4_b4_2 g4_b4_2 k4_b4_3 g4_b4_3 k4_b5_0 g4_b5_0 k4_b5_1 g4_b5_1 k4_b5_2 g4_b5_2 k4_b5_3 g4_b5_3 k4_b6_0 g4_b6_0 k4_b6_1 g4_b6_1 k4_b6_2 g4_b6_2 k4_b6_3 g4_b6_3 k4_g7_0 g4_g7_0 k4_g8_0 g4_g8_0 B4 z4; intro f hf; have u9 : f 9 = (.func (.func 26) #[] #[.pointer (some ⟨w3.heap.size, 0, none⟩), .pointer (some ⟨w3.heap.size + 1, 0, none⟩)]) := (by rw [← hf]; rfl); clear hf; rintro w' ⟨h0, h1, h2, h3, h4, h5, h6, h7, h8, h9, h10, h11, h12, h13, h14, h15, h16, h17, h18, h19, h20, h21, h22, h23, h24, h25, h26, h27⟩; go_simp; try exact IntWalk.i64_in _ (by omega)
  refine obe_val (by rfl) ?_ ?_
  · clear k4_b4_0 g4_b4_0 k4_b4_1 g4_b4_1 k4_b4_2 g4_b4_2 k4_b4_3 g4_b4_3 k4_b5_0 g4_b5_0 k4_b5_1 g4_b5_1 k4_b5_2 g4_b5_2 k4_b5_3 g4_b5_3 k4_b6_0 g4_b6_0 k4_b6_1 g4_b6_1 k4_b6_2 g4_b6_2 k4_b6_3 g4_b6_3 k4_g7_0 g4_g7_0 k4_g8_0 g4_g8_0 B4 z4; intro f hf; have u4 : f 4 = (.pointer (some ⟨w.heap.size, 0, none⟩)) := (by rw [← hf]; rfl); clear hf; rintro w' ⟨h0, h1, h2, h3, h4, h5, h6, h7, h8, h9, h10, h11, h12, h13, h14, h15, h16, h17, h18, h19, h20, h21, h22, h23, h24, h25, h26, h27⟩; go_simp; try exact IntWalk.i64_in _ (by omega)
  refine obe_val (by rfl) ?_ ?_
  · clear k4_b4_0 g4_b4_0 k4_b4_1 g4_b4_1 k4_b4_2 g4_b4_2 k4_b4_3 g4_b4_3 k4_b5_0 g4_b5_0 k4_b5_1 g4_b5_1 k4_b5_2 g4_b5_2 k4_b5_3 g4_b5_3 k4_b6_0 g4_b6_0 k4_b6_1 g4_b6_1 k4_b6_2 g4_b6_2 k4_b6_3 g4_b6_3 k4_g7_0 g4_g7_0 k4_g8_0 g4_g8_0 B4 z4; intro f hf; have u31 : f 31 = (.pointer (some ⟨w.heap.size, 1, none⟩)) := (by rw [← hf]; rfl); clear hf; rintro w' ⟨h0, h1, h2, h3, h4, h5, h6, h7, h8, h9, h10, h11, h12, h13, h14, h15, h16, h17, h18, h19, h20, h21, h22, h23, h24, h25, h26, h27⟩; go_simp; try exact IntWalk.i64_in _ (by omega)
  refine obe_val (by rfl) ?_ ?_
  · clear k4_b4_0 g4_b4_0 k4_b4_1 g4_b4_1 k4_b4_2 g4_b4_2 k4_b4_3 g4_b4_3 k4_b5_0 g4_b5_0 k4_b5_1 g4_b5_1 k4_b5_2 g4_b5_2 k4_b5_3 g4_b5_3 k4_b6_0 g4_b6_0 k4_b6_1 g4_b6_1 k4_b6_2 g4_b6_2 k4_b6_3 g4_b6_3 k4_g7_0 g4_g7_0 k4_g8_0 g4_g8_0 B4 z4; intro f hf; have u5 : f 5 = (.pointer (some ⟨w.heap.size + 1, 0, none⟩)) := (by rw [← hf]; rfl); clear hf; rintro w' ⟨h0, h1, h2, h3, h4, h5, h6, h7, h8, h9, h10, h11, h12, h13, h14, h15, h16, h17, h18, h19, h20, h21, h22, h23, h24, h25, h26, h27⟩; go_simp; try exact IntWalk.i64_in _ (by omega)
  refine obe_val (by rfl) ?_ ?_
  · clear k4_b4_0 g4_b4_0 k4_b4_1 g4_b4_1 k4_b4_2 g4_b4_2 k4_b4_3 g4_b4_3 k4_b5_0 g4_b5_0 k4_b5_1 g4_b5_1 k4_b5_2 g4_b5_2 k4_b5_3 g4_b5_3 k4_b6_0 g4_b6_0 k4_b6_1 g4_b6_1 k4_b6_2 g4_b6_2 k4_b6_3 g4_b6_3 k4_g7_0 g4_g7_0 k4_g8_0 g4_g8_0 B4 z4; intro f hf; have u33 : f 33 = (.pointer (some ⟨w.heap.size + 1, 1, none⟩)) := (by rw [← hf]; rfl); clear hf; rintro w' ⟨h0, h1, h2, h3, h4, h5, h6, h7, h8, h9, h10, h11, h12, h13, h14, h15, h16, h17, h18, h19, h20, h21, h22, h23, h24, h25, h26, h27⟩; go_simp; try exact IntWalk.i64_in _ (by omega)
  refine obe_call (by rfl) ?_ ?_ ?_
  · clear k4_b4_0 g4_b4_0 k4_b4_1 g4_b4_1 k4_b4_2 g4_b4_2 k4_b4_3 g4_b4_3 k4_b5_0 g4_b5_0 k4_b5_1 g4_b5_1 k4_b5_2 g4_b5_2 k4_b5_3 g4_b5_3 k4_b6_0 g4_b6_0 k4_b6_1 g4_b6_1 k4_b6_2 g4_b6_2 k4_b6_3 g4_b6_3 k4_g7_0 g4_g7_0 k4_g8_0 g4_g8_0 B4 z4; intro f hf; have u30 : f 30 = (.func (.func 26) #[] #[.pointer (some ⟨w3.heap.size, 0, none⟩), .pointer (some ⟨w3.heap.size + 1, 0, none⟩)]) := (by rw [← hf]; rfl); have u32 : f 32 = (.int .u8 cg) := (by rw [← hf]; rfl); have u34 : f 34 = (.int .u8 ct) := (by rw [← hf]; rfl); clear hf; intro w' _; simp only [execOp, resolve, invoke, rhoF_tmp, rhoF_func, rhoF_const, u30, u32, u34, List.map_toArray, List.map_cons, List.map_nil]; go_simp
  · clear k4_b4_0 g4_b4_0 k4_b4_1 g4_b4_1 k4_b4_2 g4_b4_2 k4_b4_3 g4_b4_3 k4_b5_0 g4_b5_0 k4_b5_1 g4_b5_1 k4_b5_2 g4_b5_2 k4_b5_3 g4_b5_3 k4_b6_0 g4_b6_0 k4_b6_1 g4_b6_1 k4_b6_2 g4_b6_2 k4_b6_3 g4_b6_3 k4_g7_0 g4_g7_0 k4_g8_0 g4_g8_0 B4 z4; rintro w' ⟨h0, h1, h2, h3, h4, h5, h6, h7, h8, h9, h10, h11, h12, h13, h14, h15, h16, h17, h18, h19, h20, h21, h22, h23, h24, h25, h26, h27⟩; exact (cc1 _ _ _ (by assumption) (by assumption)).mono (by rintro e w2 ⟨rfl, rfl⟩; exact ⟨rfl, Below.refl _ _⟩)
  refine obe_val (by rfl) ?_ ?_
  · clear k4_b4_0 g4_b4_0 k4_b4_1 g4_b4_1 k4_b4_2 g4_b4_2 k4_b4_3 g4_b4_3 k4_b5_0 g4_b5_0 k4_b5_1 g4_b5_1 k4_b5_2 g4_b5_2 k4_b5_3 g4_b5_3 k4_b6_0 g4_b6_0 k4_b6_1 g4_b6_1 k4_b6_2 g4_b6_2 k4_b6_3 g4_b6_3 k4_g7_0 g4_g7_0 k4_g8_0 g4_g8_0 B4 z4; intro f hf; have u9 : f 9 = (.func (.func 26) #[] #[.pointer (some ⟨w3.heap.size, 0, none⟩), .pointer (some ⟨w3.heap.size + 1, 0, none⟩)]) := (by rw [← hf]; rfl); clear hf; rintro w' ⟨h0, h1, h2, h3, h4, h5, h6, h7, h8, h9, h10, h11, h12, h13, h14, h15, h16, h17, h18, h19, h20, h21, h22, h23, h24, h25, h26, h27⟩; go_simp; try exact IntWalk.i64_in _ (by omega)
  refine obe_val (by rfl) ?_ ?_
  · clear k4_b4_0 g4_b4_0 k4_b4_1 g4_b4_1 k4_b4_2 g4_b4_2 k4_b4_3 g4_b4_3 k4_b5_0 g4_b5_0 k4_b5_1 g4_b5_1 k4_b5_2 g4_b5_2 k4_b5_3 g4_b5_3 k4_b6_0 g4_b6_0 k4_b6_1 g4_b6_1 k4_b6_2 g4_b6_2 k4_b6_3 g4_b6_3 k4_g7_0 g4_g7_0 k4_g8_0 g4_g8_0 B4 z4; intro f hf; have u4 : f 4 = (.pointer (some ⟨w.heap.size, 0, none⟩)) := (by rw [← hf]; rfl); clear hf; rintro w' ⟨h0, h1, h2, h3, h4, h5, h6, h7, h8, h9, h10, h11, h12, h13, h14, h15, h16, h17, h18, h19, h20, h21, h22, h23, h24, h25, h26, h27⟩; go_simp; try exact IntWalk.i64_in _ (by omega)
  refine obe_val (by rfl) ?_ ?_
  · clear k4_b4_0 g4_b4_0 k4_b4_1 g4_b4_1 k4_b4_2 g4_b4_2 k4_b4_3 g4_b4_3 k4_b5_0 g4_b5_0 k4_b5_1 g4_b5_1 k4_b5_2 g4_b5_2 k4_b5_3 g4_b5_3 k4_b6_0 g4_b6_0 k4_b6_1 g4_b6_1 k4_b6_2 g4_b6_2 k4_b6_3 g4_b6_3 k4_g7_0 g4_g7_0 k4_g8_0 g4_g8_0 B4 z4; intro f hf; have u37 : f 37 = (.pointer (some ⟨w.heap.size, 2, none⟩)) := (by rw [← hf]; rfl); clear hf; rintro w' ⟨h0, h1, h2, h3, h4, h5, h6, h7, h8, h9, h10, h11, h12, h13, h14, h15, h16, h17, h18, h19, h20, h21, h22, h23, h24, h25, h26, h27⟩; go_simp; try exact IntWalk.i64_in _ (by omega)
  refine obe_val (by rfl) ?_ ?_
  · clear k4_b4_0 g4_b4_0 k4_b4_1 g4_b4_1 k4_b4_2 g4_b4_2 k4_b4_3 g4_b4_3 k4_b5_0 g4_b5_0 k4_b5_1 g4_b5_1 k4_b5_2 g4_b5_2 k4_b5_3 g4_b5_3 k4_b6_0 g4_b6_0 k4_b6_1 g4_b6_1 k4_b6_2 g4_b6_2 k4_b6_3 g4_b6_3 k4_g7_0 g4_g7_0 k4_g8_0 g4_g8_0 B4 z4; intro f hf; have u5 : f 5 = (.pointer (some ⟨w.heap.size + 1, 0, none⟩)) := (by rw [← hf]; rfl); clear hf; rintro w' ⟨h0, h1, h2, h3, h4, h5, h6, h7, h8, h9, h10, h11, h12, h13, h14, h15, h16, h17, h18, h19, h20, h21, h22, h23, h24, h25, h26, h27⟩; go_simp; try exact IntWalk.i64_in _ (by omega)
  refine obe_val (by rfl) ?_ ?_
  · clear k4_b4_0 g4_b4_0 k4_b4_1 g4_b4_1 k4_b4_2 g4_b4_2 k4_b4_3 g4_b4_3 k4_b5_0 g4_b5_0 k4_b5_1 g4_b5_1 k4_b5_2 g4_b5_2 k4_b5_3 g4_b5_3 k4_b6_0 g4_b6_0 k4_b6_1 g4_b6_1 k4_b6_2 g4_b6_2 k4_b6_3 g4_b6_3 k4_g7_0 g4_g7_0 k4_g8_0 g4_g8_0 B4 z4; intro f hf; have u39 : f 39 = (.pointer (some ⟨w.heap.size + 1, 2, none⟩)) := (by rw [← hf]; rfl); clear hf; rintro w' ⟨h0, h1, h2, h3, h4, h5, h6, h7, h8, h9, h10, h11, h12, h13, h14, h15, h16, h17, h18, h19, h20, h21, h22, h23, h24, h25, h26, h27⟩; go_simp; try exact IntWalk.i64_in _ (by omega)
  refine obe_call (by rfl) ?_ ?_ ?_
  · clear k4_b4_0 g4_b4_0 k4_b4_1 g4_b4_1 k4_b4_2 g4_b4_2 k4_b4_3 g4_b4_3 k4_b5_0 g4_b5_0 k4_b5_1 g4_b5_1 k4_b5_2 g4_b5_2 k4_b5_3 g4_b5_3 k4_b6_0 g4_b6_0 k4_b6_1 g4_b6_1 k4_b6_2 g4_b6_2 k4_b6_3 g4_b6_3 k4_g7_0 g4_g7_0 k4_g8_0 g4_g8_0 B4 z4; intro f hf; have u36 : f 36 = (.func (.func 26) #[] #[.pointer (some ⟨w3.heap.size, 0, none⟩), .pointer (some ⟨w3.heap.size + 1, 0, none⟩)]) := (by rw [← hf]; rfl); have u38 : f 38 = (.int .u8 cb) := (by rw [← hf]; rfl); have u40 : f 40 = (.int .u8 cu) := (by rw [← hf]; rfl); clear hf; intro w' _; simp only [execOp, resolve, invoke, rhoF_tmp, rhoF_func, rhoF_const, u36, u38, u40, List.map_toArray, List.map_cons, List.map_nil]; go_simp
  · clear k4_b4_0 g4_b4_0 k4_b4_1 g4_b4_1 k4_b4_2 g4_b4_2 k4_b4_3 g4_b4_3 k4_b5_0 g4_b5_0 k4_b5_1 g4_b5_1 k4_b5_2 g4_b5_2 k4_b5_3 g4_b5_3 k4_b6_0 g4_b6_0 k4_b6_1 g4_b6_1 k4_b6_2 g4_b6_2 k4_b6_3 g4_b6_3 k4_g7_0 g4_g7_0 k4_g8_0 g4_g8_0 B4 z4; rintro w' ⟨h0, h1, h2, h3, h4, h5, h6, h7, h8, h9, h10, h11, h12, h13, h14, h15, h16, h17, h18, h19, h20, h21, h22, h23, h24, h25, h26, h27⟩; exact (cc2 _ _ _ (by assumption) (by assumption)).mono (by rintro e w2 ⟨rfl, rfl⟩; exact ⟨rfl, Below.refl _ _⟩)
  refine obe_val (by rfl) ?_ ?_
  · clear k4_b4_0 g4_b4_0 k4_b4_1 g4_b4_1 k4_b4_2 g4_b4_2 k4_b4_3 g4_b4_3 k4_b5_0 g4_b5_0 k4_b5_1 g4_b5_1 k4_b5_2 g4_b5_2 k4_b5_3 g4_b5_3 k4_b6_0 g4_b6_0 k4_b6_1 g4_b6_1 k4_b6_2 g4_b6_2 k4_b6_3 g4_b6_3 k4_g7_0 g4_g7_0 k4_g8_0 g4_g8_0 B4 z4; intro f hf; have u9 : f 9 = (.func (.func 26) #[] #[.pointer (some ⟨w3.heap.size, 0, none⟩), .pointer (some ⟨w3.heap.size + 1, 0, none⟩)]) := (by rw [← hf]; rfl); clear hf; rintro w' ⟨h0, h1, h2, h3, h4, h5, h6, h7, h8, h9, h10, h11, h12, h13, h14, h15, h16, h17, h18, h19, h20, h21, h22, h23, h24, h25, h26, h27⟩; go_simp; try exact IntWalk.i64_in _ (by omega)
  refine obe_val (by rfl) ?_ ?_
  · clear k4_b4_0 g4_b4_0 k4_b4_1 g4_b4_1 k4_b4_2 g4_b4_2 k4_b4_3 g4_b4_3 k4_b5_0 g4_b5_0 k4_b5_1 g4_b5_1 k4_b5_2 g4_b5_2 k4_b5_3 g4_b5_3 k4_b6_0 g4_b6_0 k4_b6_1 g4_b6_1 k4_b6_2 g4_b6_2 k4_b6_3 g4_b6_3 k4_g7_0 g4_g7_0 k4_g8_0 g4_g8_0 B4 z4; intro f hf; have u4 : f 4 = (.pointer (some ⟨w.heap.size, 0, none⟩)) := (by rw [← hf]; rfl); clear hf; rintro w' ⟨h0, h1, h2, h3, h4, h5, h6, h7, h8, h9, h10, h11, h12, h13, h14, h15, h16, h17, h18, h19, h20, h21, h22, h23, h24, h25, h26, h27⟩; go_simp; try exact IntWalk.i64_in _ (by omega)
  refine obe_val (by rfl) ?_ ?_
  · clear k4_b4_0 g4_b4_0 k4_b4_1 g4_b4_1 k4_b4_2 g4_b4_2 k4_b4_3 g4_b4_3 k4_b5_0 g4_b5_0 k4_b5_1 g4_b5_1 k4_b5_2 g4_b5_2 k4_b5_3 g4_b5_3 k4_b6_0 g4_b6_0 k4_b6_1 g4_b6_1 k4_b6_2 g4_b6_2 k4_b6_3 g4_b6_3 k4_g7_0 g4_g7_0 k4_g8_0 g4_g8_0 B4 z4; intro f hf; have u43 : f 43 = (.pointer (some ⟨w.heap.size, 3, none⟩)) := (by rw [← hf]; rfl); clear hf; rintro w' ⟨h0, h1, h2, h3, h4, h5, h6, h7, h8, h9, h10, h11, h12, h13, h14, h15, h16, h17, h18, h19, h20, h21, h22, h23, h24, h25, h26, h27⟩; go_simp; try exact IntWalk.i64_in _ (by omega)
  refine obe_val (by rfl) ?_ ?_
  · clear k4_b4_0 g4_b4_0 k4_b4_1 g4_b4_1 k4_b4_2 g4_b4_2 k4_b4_3 g4_b4_3 k4_b5_0 g4_b5_0 k4_b5_1 g4_b5_1 k4_b5_2 g4_b5_2 k4_b5_3 g4_b5_3 k4_b6_0 g4_b6_0 k4_b6_1 g4_b6_1 k4_b6_2 g4_b6_2 k4_b6_3 g4_b6_3 k4_g7_0 g4_g7_0 k4_g8_0 g4_g8_0 B4 z4; intro f hf; have u5 : f 5 = (.pointer (some ⟨w.heap.size + 1, 0, none⟩)) := (by rw [← hf]; rfl); clear hf; rintro w' ⟨h0, h1, h2, h3, h4, h5, h6, h7, h8, h9, h10, h11, h12, h13, h14, h15, h16, h17, h18, h19, h20, h21, h22, h23, h24, h25, h26, h27⟩; go_simp; try exact IntWalk.i64_in _ (by omega)
  refine obe_val (by rfl) ?_ ?_
  · clear k4_b4_0 g4_b4_0 k4_b4_1 g4_b4_1 k4_b4_2 g4_b4_2 k4_b4_3 g4_b4_3 k4_b5_0 g4_b5_0 k4_b5_1 g4_b5_1 k4_b5_2 g4_b5_2 k4_b5_3 g4_b5_3 k4_b6_0 g4_b6_0 k4_b6_1 g4_b6_1 k4_b6_2 g4_b6_2 k4_b6_3 g4_b6_3 k4_g7_0 g4_g7_0 k4_g8_0 g4_g8_0 B4 z4; intro f hf; have u45 : f 45 = (.pointer (some ⟨w.heap.size + 1, 3, none⟩)) := (by rw [← hf]; rfl); clear hf; rintro w' ⟨h0, h1, h2, h3, h4, h5, h6, h7, h8, h9, h10, h11, h12, h13, h14, h15, h16, h17, h18, h19, h20, h21, h22, h23, h24, h25, h26, h27⟩; go_simp; try exact IntWalk.i64_in _ (by omega)
  refine obe_call (by rfl) ?_ ?_ ?_
  · clear k4_b4_0 g4_b4_0 k4_b4_1 g4_b4_1 k4_b4_2 g4_b4_2 k4_b4_3 g4_b4_3 k4_b5_0 g4_b5_0 k4_b5_1 g4_b5_1 k4_b5_2 g4_b5_2 k4_b5_3 g4_b5_3 k4_b6_0 g4_b6_0 k4_b6_1 g4_b6_1 k4_b6_2 g4_b6_2 k4_b6_3 g4_b6_3 k4_g7_0 g4_g7_0 k4_g8_0 g4_g8_0 B4 z4; intro f hf; have u42 : f 42 = (.func (.func 26) #[] #[.pointer (some ⟨w3.heap.size, 0, none⟩), .pointer (some ⟨w3.heap.size + 1, 0, none⟩)]) := (by rw [← hf]; rfl); have u44 : f 44 = (.int .u8 a) := (by rw [← hf]; rfl); have u46 : f 46 = (.int .u8 d) := (by rw [← hf]; rfl); clear hf; intro w' _; simp only [execOp, resolve, invoke, rhoF_tmp, rhoF_func, rhoF_const, u42, u44, u46, List.map_toArray, List.map_cons, List.map_nil]; go_simp
  · clear k4_b4_0 g4_b4_0 k4_b4_1 g4_b4_1 k4_b4_2 g4_b4_2 k4_b4_3 g4_b4_3 k4_b5_0 g4_b5_0 k4_b5_1 g4_b5_1 k4_b5_2 g4_b5_2 k4_b5_3 g4_b5_3 k4_b6_0 g4_b6_0 k4_b6_1 g4_b6_1 k4_b6_2 g4_b6_2 k4_b6_3 g4_b6_3 k4_g7_0 g4_g7_0 k4_g8_0 g4_g8_0 B4 z4; rintro w' ⟨h0, h1, h2, h3, h4, h5, h6, h7, h8, h9, h10, h11, h12, h13, h14, h15, h16, h17, h18, h19, h20, h21, h22, h23, h24, h25, h26, h27⟩; exact (cc3 _ _ _ (by assumption) (by assumption)).mono (by rintro e w2 ⟨rfl, rfl⟩; exact ⟨rfl, Below.refl _ _⟩)
  refine obe_val (by rfl) ?_ ?_
  · clear k4_b4_0 g4_b4_0 k4_b4_1 g4_b4_1 k4_b4_2 g4_b4_2 k4_b4_3 g4_b4_3 k4_b5_0 g4_b5_0 k4_b5_1 g4_b5_1 k4_b5_2 g4_b5_2 k4_b5_3 g4_b5_3 k4_b6_0 g4_b6_0 k4_b6_1 g4_b6_1 k4_b6_2 g4_b6_2 k4_b6_3 g4_b6_3 k4_g7_0 g4_g7_0 k4_g8_0 g4_g8_0 B4 z4; intro f hf; have u29 : f 29 = (.int .u8 l0) := (by rw [← hf]; rfl); have u35 : f 35 = (.int .u8 l1) := (by rw [← hf]; rfl); have u41 : f 41 = (.int .u8 l2) := (by rw [← hf]; rfl); have u47 : f 47 = (.int .u8 l3) := (by rw [← hf]; rfl); clear hf; rintro w' ⟨h0, h1, h2, h3, h4, h5, h6, h7, h8, h9, h10, h11, h12, h13, h14, h15, h16, h17, h18, h19, h20, h21, h22, h23, h24, h25, h26, h27⟩; go_simp; try exact IntWalk.i64_in _ (by omega)
  refine obe_nil ?_
  rintro w5 ⟨h0, h1, h2, h3, h4, h5, h6, h7, h8, h9, h10, h11, h12, h13, h14, h15, h16, h17, h18, h19, h20, h21, h22, h23, h24, h25, h26, h27⟩ hb5 hF
  (try simp only [List.nil_append, List.append_nil, List.cons_append] at hF)
  simp only [puts, putD, Act.put, List.setIfInBounds_toArray, List.set_cons_zero, List.set_cons_succ]
  clear hF
  have k5_b4_0 := bcs hb5 k4_b4_0
  have g5_b4_0 := bfs hb5 k4_b4_0 g4_b4_0
  have k5_b4_1 := bcs hb5 k4_b4_1
  have g5_b4_1 := bfs hb5 k4_b4_1 g4_b4_1
  have k5_b4_2 := bcs hb5 k4_b4_2
  have g5_b4_2 := bfs hb5 k4_b4_2 g4_b4_2
  have k5_b4_3 := bcs hb5 k4_b4_3
  have g5_b4_3 := bfs hb5 k4_b4_3 g4_b4_3
  have k5_b5_0 := bcs hb5 k4_b5_0
  have g5_b5_0 := bfs hb5 k4_b5_0 g4_b5_0
  have k5_b5_1 := bcs hb5 k4_b5_1
  have g5_b5_1 := bfs hb5 k4_b5_1 g4_b5_1
  have k5_b5_2 := bcs hb5 k4_b5_2
  have g5_b5_2 := bfs hb5 k4_b5_2 g4_b5_2
  have k5_b5_3 := bcs hb5 k4_b5_3
  have g5_b5_3 := bfs hb5 k4_b5_3 g4_b5_3
  have k5_b6_0 := bcs hb5 k4_b6_0
  have g5_b6_0 := bfs hb5 k4_b6_0 g4_b6_0
  have k5_b6_1 := bcs hb5 k4_b6_1
  have g5_b6_1 := bfs hb5 k4_b6_1 g4_b6_1
  have k5_b6_2 := bcs hb5 k4_b6_2
  have g5_b6_2 := bfs hb5 k4_b6_2 g4_b6_2
  have k5_b6_3 := bcs hb5 k4_b6_3
  have g5_b6_3 := bfs hb5 k4_b6_3 g4_b6_3
  have k5_g7_0 := bcs hb5 k4_g7_0
  have g5_g7_0 := bfs hb5 k4_g7_0 g4_g7_0
  have k5_g8_0 := bcs hb5 k4_g8_0
  have g5_g8_0 := bfs hb5 k4_g8_0 g4_g8_0
  clear h0 h1 h2 h3 h4 h5 h6 h7 h8 h9 h10 h11 h12 h13 h14 h15 h16 h17 h18 h19 h20 h21 h22 h23 h24 h25 h26 h27
  have B5 := bel_step B4 hb5
  have z5 := Nat.le_trans z4 hb5.size
  clear hb5
  (try clear B4)
  (try clear z4)
  (try clear k4_b4_0)
  (try clear g4_b4_0)
  (try clear k4_b4_1)
  (try clear g4_b4_1)
  (try clear k4_b4_2)
  (try clear g4_b4_2)
  (try clear k4_b4_3)
  (try clear g4_b4_3)
  (try clear k4_b5_0)
  (try clear g4_b5_0)
  (try clear k4_b5_1)
  (try clear g4_b5_1)
  (try clear k4_b5_2)
  (try clear g4_b5_2)
  (try clear k4_b5_3)
  (try clear g4_b5_3)
  (try clear k4_b6_0)
  (try clear g4_b6_0)
  (try clear k4_b6_1)
  (try clear g4_b6_1)
  (try clear k4_b6_2)
  (try clear g4_b6_2)
  (try clear k4_b6_3)
  (try clear g4_b6_3)
  (try clear k4_g7_0)
  (try clear g4_g7_0)
  (try clear k4_g8_0)
  (try clear g4_g8_0)
  (try clear q4_b4)
  (try clear x4_b4)
  (try clear y4_b4)
  (try clear q4_b5)
  (try clear x4_b5)
  (try clear y4_b5)
  (try clear q4_b6)
  (try clear x4_b6)
  (try clear y4_b6)
  (try clear q4_g7)
  (try clear x4_g7)
  (try clear y4_g7)
  (try clear q4_g8)
  (try clear x4_g8)
  (try clear y4_g8)
  have q5_b4 : w.heap.size < w5.heap.size := qlt k5_b4_0
  have x5_b4 : ¬ w.heap.size = w5.heap.size := qne k5_b4_0
  have y5_b4 : ¬ w5.heap.size = w.heap.size := fun h => qne k5_b4_0 h.symm
  have q5_b5 : w.heap.size + 1 < w5.heap.size := qlt k5_b5_0
  have x5_b5 : ¬ w.heap.size + 1 = w5.heap.size := qne k5_b5_0
  have y5_b5 : ¬ w5.heap.size = w.heap.size + 1 := fun h => qne k5_b5_0 h.symm
  have q5_b6 : w.heap.size + 1 + 1 < w5.heap.size := qlt k5_b6_0
  have x5_b6 : ¬ w.heap.size + 1 + 1 = w5.heap.size := qne k5_b6_0
  have y5_b6 : ¬ w5.heap.size = w.heap.size + 1 + 1 := fun h => qne k5_b6_0 h.symm
  have q5_g7 : w3.heap.size < w5.heap.size := qlt k5_g7_0
  have x5_g7 : ¬ w3.heap.size = w5.heap.size := qne k5_g7_0
  have y5_g7 : ¬ w5.heap.size = w3.heap.size := fun h => qne k5_g7_0 h.symm
  have q5_g8 : w3.heap.size + 1 < w5.heap.size := qlt k5_g8_0
  have x5_g8 : ¬ w3.heap.size + 1 = w5.heap.size := qne k5_g8_0
  have y5_g8 : ¬ w5.heap.size = w3.heap.size + 1 := fun h => qne k5_g8_0 h.symm
  go_wp2
  refine bodyPost_ret (v := .agg #[.int .u8 l0, .int .u8 l1, .int .u8 l2, .int .u8 l3]) (by simp [results, Try.results15, go_sem, *]) rfl ⟨rfl, ?_⟩
  repeat (first | with_reducible exact Below.refl _ _ | with_reducible exact B5 | with_reducible apply below_drewN | with_reducible apply Below.drew | (with_reducible refine Below.alloc ?_ (by first | (simp; done) | (simp; omega) | omega) _) | (with_reducible refine Below.setCell ?_ (by first | (simp; done) | (simp; omega) | omega) _))
end Go.Proofs.Ytgaabdidddglhaa
