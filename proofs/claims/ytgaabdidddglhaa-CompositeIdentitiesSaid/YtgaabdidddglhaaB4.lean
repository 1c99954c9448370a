import Derived.Test.YtgaabdidddglhaaB2
import Derived.WalkKit
import Derived.WalkSpells
import Derived.WalkLawsBesides
import Derived.Lib.Hide
import Derived.Below
import Derived.Deep.QuietTactic
import Derived.BigQuiet
import Derived.Deep.RegionHeld3
import Derived.Deep.DrawnRows
import Derived.Deep.DeepFit
import Derived.IntWalk
namespace Go.Proofs.Ytgaabdidddglhaa
open Go.RowKit
set_option linter.unusedVariables false
set_option linter.unusedSimpArgs false
attribute [local go_sem ↓] Go.wp_at_zero Go.wp_at_succ
attribute [local go_sem] rhoF_tmp rhoF_const rhoF_global rhoF_func

set_option maxHeartbeats 1000000 in
theorem comps_any (r g b a : Int) (r0 : 0 ≤ r) (r1 : r ≤ 255) (g0 : 0 ≤ g) (g1 : g ≤ 255) (b0 : 0 ≤ b) (b1 : b ≤ 255) (a0 : 0 ≤ a) (a1 : a ≤ 255) (w : World) :
    Calls Try.prog 45 #[.agg #[.int .u8 r, .int .u8 g, .int .u8 b, .int .u8 a]] w fun e w' => e = .returned (.agg #[.int .i64 r, .int .i64 g, .int .i64 b]) ∧ Below w.heap.size w w' := by
  go_enter Try.func45, Try.ntmps45
  go_wp2
  refine bodyPost_ret (v := .agg #[.int .i64 r, .int .i64 g, .int .i64 b]) (by simp [results, Try.results45, go_sem, *]) rfl ⟨rfl, ?_⟩
  repeat (first | with_reducible exact Below.refl _ _ | fail | with_reducible apply below_drewN | with_reducible apply Below.drew | (with_reducible refine Below.alloc ?_ (by first | (simp; done) | (simp; omega) | omega) _) | (with_reducible refine Below.setCell ?_ (by first | (simp; done) | (simp; omega) | omega) _))

set_option maxHeartbeats 1000000 in
theorem pclamp_any (r g b a cr cg cb : Int) (hr : min r a = cr) (hg : min g a = cg) (hb : min b a = cb) (w : World) :
    Calls Try.prog 25 #[.agg #[.int .u8 r, .int .u8 g, .int .u8 b, .int .u8 a]] w fun e w' => e = .returned (.agg #[.int .u8 cr, .int .u8 cg, .int .u8 cb, .int .u8 a]) ∧ Below w.heap.size w w' := by
  have gr : (if a < r then a else r) = cr := by rw [← hr]; omega
  have gg : (if a < g then a else g) = cg := by rw [← hg]; omega
  have gb : (if a < b then a else b) = cb := by rw [← hb]; omega
  go_enter Try.func25, Try.ntmps25
  go_wp2
  refine bodyPost_ret (v := .agg #[.int .u8 cr, .int .u8 cg, .int .u8 cb, .int .u8 a]) (by simp [results, Try.results25, go_sem, *]) rfl ⟨rfl, ?_⟩
  repeat (first | with_reducible exact Below.refl _ _ | fail | with_reducible apply below_drewN | with_reducible apply Below.drew | (with_reducible refine Below.alloc ?_ (by first | (simp; done) | (simp; omega) | omega) _) | (with_reducible refine Below.setCell ?_ (by first | (simp; done) | (simp; omega) | omega) _))

set_option maxHeartbeats 1000000 in
theorem rpclamp_any (r g b a cr cg cb : Int) (hr : min r a = cr) (hg : min g a = cg) (hb : min b a = cb) (w : World) :
    Calls Try.prog 21 #[.agg #[.int .u8 r, .int .u8 g, .int .u8 b, .int .u8 a]] w fun e w' => e = .returned (.agg #[.int .u8 cr, .int .u8 cg, .int .u8 cb, .int .u8 a]) ∧ Below w.heap.size w w' := by
  have gr : (if a < r then a else r) = cr := by rw [← hr]; omega
  have gg : (if a < g then a else g) = cg := by rw [← hg]; omega
  have gb : (if a < b then a else b) = cb := by rw [← hb]; omega
  go_enter Try.func21, Try.ntmps21
  go_wp2
  refine bodyPost_ret (v := .agg #[.int .u8 cr, .int .u8 cg, .int .u8 cb, .int .u8 a]) (by simp [results, Try.results21, go_sem, *]) rfl ⟨rfl, ?_⟩
  repeat (first | with_reducible exact Below.refl _ _ | fail | with_reducible apply below_drewN | with_reducible apply Below.drew | (with_reducible refine Below.alloc ?_ (by first | (simp; done) | (simp; omega) | omega) _) | (with_reducible refine Below.setCell ?_ (by first | (simp; done) | (simp; omega) | omega) _))

def bc (m v sa u da : Int) : Int := divN (unc v sa u da + termF m v sa u da)
theorem termF_bd (m s sa d da : Int) : 0 ≤ termF m s sa d da ∧ termF m s sa d da ≤ 65025 := by
  by_cases h : s < 0 ∨ sa < s ∨ 255 < sa ∨ d < 0 ∨ da < d ∨ 255 < da
  · rw [termF_out h]; omega
  · have h' : 0 ≤ s ∧ s ≤ sa ∧ sa ≤ 255 ∧ 0 ≤ d ∧ d ≤ da ∧ da ≤ 255 := by omega
    rw [termF_in h']
    have := trm_bd m h'
    have := (prods h').2.2.2.2.1
    omega

def BcInv (w wr : World) (x y p q : Nat) (r g b s t u : Int) (c0 c1 c2 : Int) : Prop :=
  wr.cell? ⟨x, 0, none⟩ = some (.int .u8 0) ∧ wr.frozen? ⟨x, 0, none⟩ = false ∧ wr.cell? ⟨x, 1, none⟩ = some (.int .u8 0) ∧ wr.frozen? ⟨x, 1, none⟩ = false ∧ wr.cell? ⟨x, 2, none⟩ = some (.int .u8 0) ∧ wr.frozen? ⟨x, 2, none⟩ = false ∧ wr.cell? ⟨y, 0, none⟩ = some (.int .u8 c0) ∧ wr.frozen? ⟨y, 0, none⟩ = false ∧ wr.cell? ⟨y, 1, none⟩ = some (.int .u8 c1) ∧ wr.frozen? ⟨y, 1, none⟩ = false ∧ wr.cell? ⟨y, 2, none⟩ = some (.int .u8 c2) ∧ wr.frozen? ⟨y, 2, none⟩ = false ∧ wr.cell? ⟨p, 0, none⟩ = some (.int .i64 r) ∧ wr.cell? ⟨p, 1, none⟩ = some (.int .i64 g) ∧ wr.cell? ⟨p, 2, none⟩ = some (.int .i64 b) ∧ wr.cell? ⟨q, 0, none⟩ = some (.int .i64 s) ∧ wr.cell? ⟨q, 1, none⟩ = some (.int .i64 t) ∧ wr.cell? ⟨q, 2, none⟩ = some (.int .i64 u) ∧ Below w.heap.size w wr

set_option maxHeartbeats 4000000 in
theorem bcomp_any (m r g b a s t u d : Int) (r0 : 0 ≤ r) (r1 : r ≤ 255) (g0 : 0 ≤ g) (g1 : g ≤ 255) (b0 : 0 ≤ b) (b1 : b ≤ 255) (a0 : 0 ≤ a) (a1 : a ≤ 255) (s0 : 0 ≤ s) (s1 : s ≤ 255) (t0 : 0 ≤ t) (t1 : t ≤ 255) (u0 : 0 ≤ u) (u1 : u ≤ 255) (d0 : 0 ≤ d) (d1 : d ≤ 255) (w : World) :
    Calls Try.prog 36 #[.int .i64 m, .agg #[.int .u8 r, .int .u8 g, .int .u8 b, .int .u8 a], .agg #[.int .u8 s, .int .u8 t, .int .u8 u, .int .u8 d]] w fun e w' => e = .returned (.agg #[.int .u8 (bc m r a s d), .int .u8 (bc m g a t d), .int .u8 (bc m b a u d)]) ∧ Below w.heap.size w w' := by
  unfold bc
  have cu0 := fun w => unc_any r a s d (by omega) w
  have ct0 := fun w => term_any m r a s d w
  have cd0 := fun w => divNorm8_any (unc r a s d + termF m r a s d) w
  have bu0 := (unc_bd (s := r) (sa := a) (d := s) (da := d) (by omega)).2.2.2.2
  have bt0 := termF_bd m r a s d
  have bx0 := divN_bd (unc r a s d + termF m r a s d)
  obtain ⟨x0, hx0⟩ : ∃ x, divN (unc r a s d + termF m r a s d) = x := ⟨_, rfl⟩
  rw [hx0] at cd0 bx0 ⊢
  clear hx0
  obtain ⟨y0, hy0⟩ : ∃ x, unc r a s d = x := ⟨_, rfl⟩
  rw [hy0] at cu0 cd0 bu0
  clear hy0
  obtain ⟨z0, hz0⟩ : ∃ x, termF m r a s d = x := ⟨_, rfl⟩
  rw [hz0] at ct0 cd0 bt0
  clear hz0
  have cu1 := fun w => unc_any g a t d (by omega) w
  have ct1 := fun w => term_any m g a t d w
  have cd1 := fun w => divNorm8_any (unc g a t d + termF m g a t d) w
  have bu1 := (unc_bd (s := g) (sa := a) (d := t) (da := d) (by omega)).2.2.2.2
  have bt1 := termF_bd m g a t d
  have bx1 := divN_bd (unc g a t d + termF m g a t d)
  obtain ⟨x1, hx1⟩ : ∃ x, divN (unc g a t d + termF m g a t d) = x := ⟨_, rfl⟩
  rw [hx1] at cd1 bx1 ⊢
  clear hx1
  obtain ⟨y1, hy1⟩ : ∃ x, unc g a t d = x := ⟨_, rfl⟩
  rw [hy1] at cu1 cd1 bu1
  clear hy1
  obtain ⟨z1, hz1⟩ : ∃ x, termF m g a t d = x := ⟨_, rfl⟩
  rw [hz1] at ct1 cd1 bt1
  clear hz1
  have cu2 := fun w => unc_any b a u d (by omega) w
  have ct2 := fun w => term_any m b a u d w
  have cd2 := fun w => divNorm8_any (unc b a u d + termF m b a u d) w
  have bu2 := (unc_bd (s := b) (sa := a) (d := u) (da := d) (by omega)).2.2.2.2
  have bt2 := termF_bd m b a u d
  have bx2 := divN_bd (unc b a u d + termF m b a u d)
  obtain ⟨x2, hx2⟩ : ∃ x, divN (unc b a u d + termF m b a u d) = x := ⟨_, rfl⟩
  rw [hx2] at cd2 bx2 ⊢
  clear hx2
  obtain ⟨y2, hy2⟩ : ∃ x, unc b a u d = x := ⟨_, rfl⟩
  rw [hy2] at cu2 cd2 bu2
  clear hy2
  obtain ⟨z2, hz2⟩ : ∃ x, termF m b a u d = x := ⟨_, rfl⟩
  rw [hz2] at ct2 cd2 bt2
  clear hz2
  go_enter Try.func36, Try.ntmps36
  go_wp2
  refine wp_region_env (fun w' => w'.cell? ⟨w.heap.size, 0, none⟩ = some (.int .u8 r) ∧ w'.frozen? ⟨w.heap.size, 0, none⟩ = false ∧ w'.cell? ⟨w.heap.size, 1, none⟩ = some (.int .u8 g) ∧ w'.frozen? ⟨w.heap.size, 1, none⟩ = false ∧ w'.cell? ⟨w.heap.size, 2, none⟩ = some (.int .u8 b) ∧ w'.frozen? ⟨w.heap.size, 2, none⟩ = false ∧ w'.cell? ⟨w.heap.size, 3, none⟩ = some (.int .u8 a) ∧ w'.frozen? ⟨w.heap.size, 3, none⟩ = false ∧ w'.cell? ⟨w.heap.size + 1, 0, none⟩ = some (.int .u8 s) ∧ w'.frozen? ⟨w.heap.size + 1, 0, none⟩ = false ∧ w'.cell? ⟨w.heap.size + 1, 1, none⟩ = some (.int .u8 t) ∧ w'.frozen? ⟨w.heap.size + 1, 1, none⟩ = false ∧ w'.cell? ⟨w.heap.size + 1, 2, none⟩ = some (.int .u8 u) ∧ w'.frozen? ⟨w.heap.size + 1, 2, none⟩ = false ∧ w'.cell? ⟨w.heap.size + 1, 3, none⟩ = some (.int .u8 d) ∧ w'.frozen? ⟨w.heap.size + 1, 3, none⟩ = false ∧ w'.cell? ⟨w.heap.size + 1 + 1, 0, none⟩ = some (.int .u8 0) ∧ w'.frozen? ⟨w.heap.size + 1 + 1, 0, none⟩ = false ∧ w'.cell? ⟨w.heap.size + 1 + 1, 1, none⟩ = some (.int .u8 0) ∧ w'.frozen? ⟨w.heap.size + 1 + 1, 1, none⟩ = false ∧ w'.cell? ⟨w.heap.size + 1 + 1, 2, none⟩ = some (.int .u8 0) ∧ w'.frozen? ⟨w.heap.size + 1 + 1, 2, none⟩ = false ∧ w'.cell? ⟨w.heap.size + 1 + 1 + 1, 0, none⟩ = some (.int .u8 0) ∧ w'.frozen? ⟨w.heap.size + 1 + 1 + 1, 0, none⟩ = false ∧ w'.cell? ⟨w.heap.size + 1 + 1 + 1, 1, none⟩ = some (.int .u8 0) ∧ w'.frozen? ⟨w.heap.size + 1 + 1 + 1, 1, none⟩ = false ∧ w'.cell? ⟨w.heap.size + 1 + 1 + 1, 2, none⟩ = some (.int .u8 0) ∧ w'.frozen? ⟨w.heap.size + 1 + 1 + 1, 2, none⟩ = false) (fun W => W.cell? ⟨w.heap.size, 0, none⟩ = some (.int .u8 r) ∧ W.frozen? ⟨w.heap.size, 0, none⟩ = false ∧ W.cell? ⟨w.heap.size, 1, none⟩ = some (.int .u8 g) ∧ W.frozen? ⟨w.heap.size, 1, none⟩ = false ∧ W.cell? ⟨w.heap.size, 2, none⟩ = some (.int .u8 b) ∧ W.frozen? ⟨w.heap.size, 2, none⟩ = false ∧ W.cell? ⟨w.heap.size, 3, none⟩ = some (.int .u8 a) ∧ W.frozen? ⟨w.heap.size, 3, none⟩ = false ∧ W.cell? ⟨w.heap.size + 1, 0, none⟩ = some (.int .u8 s) ∧ W.frozen? ⟨w.heap.size + 1, 0, none⟩ = false ∧ W.cell? ⟨w.heap.size + 1, 1, none⟩ = some (.int .u8 t) ∧ W.frozen? ⟨w.heap.size + 1, 1, none⟩ = false ∧ W.cell? ⟨w.heap.size + 1, 2, none⟩ = some (.int .u8 u) ∧ W.frozen? ⟨w.heap.size + 1, 2, none⟩ = false ∧ W.cell? ⟨w.heap.size + 1, 3, none⟩ = some (.int .u8 d) ∧ W.frozen? ⟨w.heap.size + 1, 3, none⟩ = false ∧ W.cell? ⟨w.heap.size + 1 + 1, 0, none⟩ = some (.int .u8 0) ∧ W.frozen? ⟨w.heap.size + 1 + 1, 0, none⟩ = false ∧ W.cell? ⟨w.heap.size + 1 + 1, 1, none⟩ = some (.int .u8 0) ∧ W.frozen? ⟨w.heap.size + 1 + 1, 1, none⟩ = false ∧ W.cell? ⟨w.heap.size + 1 + 1, 2, none⟩ = some (.int .u8 0) ∧ W.frozen? ⟨w.heap.size + 1 + 1, 2, none⟩ = false ∧ W.cell? ⟨w.heap.size + 1 + 1 + 1, 0, none⟩ = some (.int .u8 0) ∧ W.frozen? ⟨w.heap.size + 1 + 1 + 1, 0, none⟩ = false ∧ W.cell? ⟨w.heap.size + 1 + 1 + 1, 1, none⟩ = some (.int .u8 0) ∧ W.frozen? ⟨w.heap.size + 1 + 1 + 1, 1, none⟩ = false ∧ W.cell? ⟨w.heap.size + 1 + 1 + 1, 2, none⟩ = some (.int .u8 0) ∧ W.frozen? ⟨w.heap.size + 1 + 1 + 1, 2, none⟩ = false ∧ Below w.heap.size w W ∧ w.heap.size + 1 + 1 + 1 + 1 ≤ W.heap.size) 8 51 [.val (.pointer (some ⟨w.heap.size, 3, none⟩)), .val (.int .u8 a), .val (.int .i64 a), .val (.pointer (some ⟨w.heap.size + 1, 3, none⟩)), .val (.int .u8 d), .val (.int .i64 d), .val (.int .i64 a), .val (.int .i64 d)] (by kernel_rfl) (by kernel_rfl) rfl (by kernel_rfl) (by rintro w1 w2 ⟨h0, h1, h2, h3, h4, h5, h6, h7, h8, h9, h10, h11, h12, h13, h14, h15, h16, h17, h18, h19, h20, h21, h22, h23, h24, h25, h26, h27⟩ hb; exact ⟨bcs hb h0, bfs hb h0 h1, bcs hb h2, bfs hb h2 h3, bcs hb h4, bfs hb h4 h5, bcs hb h6, bfs hb h6 h7, bcs hb h8, bfs hb h8 h9, bcs hb h10, bfs hb h10 h11, bcs hb h12, bfs hb h12 h13, bcs hb h14, bfs hb h14 h15, bcs hb h16, bfs hb h16 h17, bcs hb h18, bfs hb h18 h19, bcs hb h20, bfs hb h20 h21, bcs hb h22, bfs hb h22 h23, bcs hb h24, bfs hb h24 h25, bcs hb h26, bfs hb h26 h27⟩) ⟨by first | with_reducible assumption | go_simp, by first | with_reducible assumption | go_simp, by first | with_reducible assumption | go_simp, by first | with_reducible assumption | go_simp, by first | with_reducible assumption | go_simp, by first | with_reducible assumption | go_simp, by first | with_reducible assumption | go_simp, by first | with_reducible assumption | go_simp, by first | with_reducible assumption | go_simp, by first | with_reducible assumption | go_simp, by first | with_reducible assumption | go_simp, by first | with_reducible assumption | go_simp, by first | with_reducible assumption | go_simp, by first | with_reducible assumption | go_simp, by first | with_reducible assumption | go_simp, by first | with_reducible assumption | go_simp, by first | with_reducible assumption | go_simp, by first | with_reducible assumption | go_simp, by first | with_reducible assumption | go_simp, by first | with_reducible assumption | go_simp, by first | with_reducible assumption | go_simp, by first | with_reducible assumption | go_simp, by first | with_reducible assumption | go_simp, by first | with_reducible assumption | go_simp, by first | with_reducible assumption | go_simp, by first | with_reducible assumption | go_simp, by first | with_reducible assumption | go_simp, by first | with_reducible assumption | go_simp, by repeat (first | with_reducible exact Below.refl _ _ | fail | with_reducible apply below_drewN | with_reducible apply Below.drew | (with_reducible refine Below.alloc ?_ (by first | (simp; done) | (simp; omega) | omega) _) | (with_reducible refine Below.setCell ?_ (by first | (simp; done) | (simp; omega) | omega) _)), by first | with_reducible assumption | (simp; done) | (simp; omega)⟩ ?_ ?_
  · rintro W ⟨k1_b4_0, g1_b4_0, k1_b4_1, g1_b4_1, k1_b4_2, g1_b4_2, k1_b4_3, g1_b4_3, k1_b5_0, g1_b5_0, k1_b5_1, g1_b5_1, k1_b5_2, g1_b5_2, k1_b5_3, g1_b5_3, k1_b6_0, g1_b6_0, k1_b6_1, g1_b6_1, k1_b6_2, g1_b6_2, k1_g7_0, g1_g7_0, k1_g7_1, g1_g7_1, k1_g7_2, g1_g7_2, B1, z1⟩; exact ⟨k1_b4_0, g1_b4_0, k1_b4_1, g1_b4_1, k1_b4_2, g1_b4_2, k1_b4_3, g1_b4_3, k1_b5_0, g1_b5_0, k1_b5_1, g1_b5_1, k1_b5_2, g1_b5_2, k1_b5_3, g1_b5_3, k1_b6_0, g1_b6_0, k1_b6_1, g1_b6_1, k1_b6_2, g1_b6_2, k1_g7_0, g1_g7_0, k1_g7_1, g1_g7_1, k1_g7_2, g1_g7_2⟩
  rintro w1 ⟨k1_b4_0, g1_b4_0, k1_b4_1, g1_b4_1, k1_b4_2, g1_b4_2, k1_b4_3, g1_b4_3, k1_b5_0, g1_b5_0, k1_b5_1, g1_b5_1, k1_b5_2, g1_b5_2, k1_b5_3, g1_b5_3, k1_b6_0, g1_b6_0, k1_b6_1, g1_b6_1, k1_b6_2, g1_b6_2, k1_g7_0, g1_g7_0, k1_g7_1, g1_g7_1, k1_g7_2, g1_g7_2, B1, z1⟩ gg
  simp only [List.take_succ_cons, List.take_zero, List.drop_succ_cons, List.drop_zero, List.cons_append, List.nil_append, List.append_nil]
  refine obe_val (by rfl) ?_ ?_
  · clear k1_b4_0 g1_b4_0 k1_b4_1 g1_b4_1 k1_b4_2 g1_b4_2 k1_b4_3 g1_b4_3 k1_b5_0 g1_b5_0 k1_b5_1 g1_b5_1 k1_b5_2 g1_b5_2 k1_b5_3 g1_b5_3 k1_b6_0 g1_b6_0 k1_b6_1 g1_b6_1 k1_b6_2 g1_b6_2 k1_g7_0 g1_g7_0 k1_g7_1 g1_g7_1 k1_g7_2 g1_g7_2 B1 z1; intro f hf; have u4 : f 4 = (.pointer (some ⟨w.heap.size, 0, none⟩)) := (by rw [← hf]; rfl); clear hf; rintro w' ⟨h0, h1, h2, h3, h4, h5, h6, h7, h8, h9, h10, h11, h12, h13, h14, h15, h16, h17, h18, h19, h20, h21, h22, h23, h24, h25, h26, h27⟩; go_simp; try exact IntWalk.i64_in _ (by omega)
  refine obe_val (by rfl) ?_ ?_
  · clear k1_b4_0 g1_b4_0 k1_b4_1 g1_b4_1 k1_b4_2 g1_b4_2 k1_b4_3 g1_b4_3 k1_b5_0 g1_b5_0 k1_b5_1 g1_b5_1 k1_b5_2 g1_b5_2 k1_b5_3 g1_b5_3 k1_b6_0 g1_b6_0 k1_b6_1 g1_b6_1 k1_b6_2 g1_b6_2 k1_g7_0 g1_g7_0 k1_g7_1 g1_g7_1 k1_g7_2 g1_g7_2 B1 z1; intro f hf; have u15 : f 15 = (.pointer (some ⟨w.heap.size, 3, none⟩)) := (by rw [← hf]; rfl); clear hf; rintro w' ⟨h0, h1, h2, h3, h4, h5, h6, h7, h8, h9, h10, h11, h12, h13, h14, h15, h16, h17, h18, h19, h20, h21, h22, h23, h24, h25, h26, h27⟩; go_simp; try exact IntWalk.i64_in _ (by omega)
  refine obe_val (by rfl) ?_ ?_
  · clear k1_b4_0 g1_b4_0 k1_b4_1 g1_b4_1 k1_b4_2 g1_b4_2 k1_b4_3 g1_b4_3 k1_b5_0 g1_b5_0 k1_b5_1 g1_b5_1 k1_b5_2 g1_b5_2 k1_b5_3 g1_b5_3 k1_b6_0 g1_b6_0 k1_b6_1 g1_b6_1 k1_b6_2 g1_b6_2 k1_g7_0 g1_g7_0 k1_g7_1 g1_g7_1 k1_g7_2 g1_g7_2 B1 z1; intro f hf; have u16 : f 16 = (.int .u8 a) := (by rw [← hf]; rfl); clear hf; rintro w' ⟨h0, h1, h2, h3, h4, h5, h6, h7, h8, h9, h10, h11, h12, h13, h14, h15, h16, h17, h18, h19, h20, h21, h22, h23, h24, h25, h26, h27⟩; go_simp; try exact IntWalk.i64_in _ (by omega)
  refine obe_val (by rfl) ?_ ?_
  · clear k1_b4_0 g1_b4_0 k1_b4_1 g1_b4_1 k1_b4_2 g1_b4_2 k1_b4_3 g1_b4_3 k1_b5_0 g1_b5_0 k1_b5_1 g1_b5_1 k1_b5_2 g1_b5_2 k1_b5_3 g1_b5_3 k1_b6_0 g1_b6_0 k1_b6_1 g1_b6_1 k1_b6_2 g1_b6_2 k1_g7_0 g1_g7_0 k1_g7_1 g1_g7_1 k1_g7_2 g1_g7_2 B1 z1; intro f hf; have u5 : f 5 = (.pointer (some ⟨w.heap.size + 1, 0, none⟩)) := (by rw [← hf]; rfl); clear hf; rintro w' ⟨h0, h1, h2, h3, h4, h5, h6, h7, h8, h9, h10, h11, h12, h13, h14, h15, h16, h17, h18, h19, h20, h21, h22, h23, h24, h25, h26, h27⟩; go_simp; try exact IntWalk.i64_in _ (by omega)
  refine obe_val (by rfl) ?_ ?_
  · clear k1_b4_0 g1_b4_0 k1_b4_1 g1_b4_1 k1_b4_2 g1_b4_2 k1_b4_3 g1_b4_3 k1_b5_0 g1_b5_0 k1_b5_1 g1_b5_1 k1_b5_2 g1_b5_2 k1_b5_3 g1_b5_3 k1_b6_0 g1_b6_0 k1_b6_1 g1_b6_1 k1_b6_2 g1_b6_2 k1_g7_0 g1_g7_0 k1_g7_1 g1_g7_1 k1_g7_2 g1_g7_2 B1 z1; intro f hf; have u18 : f 18 = (.pointer (some ⟨w.heap.size + 1, 3, none⟩)) := (by rw [← hf]; rfl); clear hf; rintro w' ⟨h0, h1, h2, h3, h4, h5, h6, h7, h8, h9, h10, h11, h12, h13, h14, h15, h16, h17, h18, h19, h20, h21, h22, h23, h24, h25, h26, h27⟩; go_simp; try exact IntWalk.i64_in _ (by omega)
  refine obe_val (by rfl) ?_ ?_
  · clear k1_b4_0 g1_b4_0 k1_b4_1 g1_b4_1 k1_b4_2 g1_b4_2 k1_b4_3 g1_b4_3 k1_b5_0 g1_b5_0 k1_b5_1 g1_b5_1 k1_b5_2 g1_b5_2 k1_b5_3 g1_b5_3 k1_b6_0 g1_b6_0 k1_b6_1 g1_b6_1 k1_b6_2 g1_b6_2 k1_g7_0 g1_g7_0 k1_g7_1 g1_g7_1 k1_g7_2 g1_g7_2 B1 z1; intro f hf; have u19 : f 19 = (.int .u8 d) := (by rw [← hf]; rfl); clear hf; rintro w' ⟨h0, h1, h2, h3, h4, h5, h6, h7, h8, h9, h10, h11, h12, h13, h14, h15, h16, h17, h18, h19, h20, h21, h22, h23, h24, h25, h26, h27⟩; go_simp; try exact IntWalk.i64_in _ (by omega)
  refine obe_val (by rfl) ?_ ?_
  · clear k1_b4_0 g1_b4_0 k1_b4_1 g1_b4_1 k1_b4_2 g1_b4_2 k1_b4_3 g1_b4_3 k1_b5_0 g1_b5_0 k1_b5_1 g1_b5_1 k1_b5_2 g1_b5_2 k1_b5_3 g1_b5_3 k1_b6_0 g1_b6_0 k1_b6_1 g1_b6_1 k1_b6_2 g1_b6_2 k1_g7_0 g1_g7_0 k1_g7_1 g1_g7_1 k1_g7_2 g1_g7_2 B1 z1; intro f hf; have u17 : f 17 = (.int .i64 a) := (by rw [← hf]; rfl); clear hf; rintro w' ⟨h0, h1, h2, h3, h4, h5, h6, h7, h8, h9, h10, h11, h12, h13, h14, h15, h16, h17, h18, h19, h20, h21, h22, h23, h24, h25, h26, h27⟩; go_simp; try exact IntWalk.i64_in _ (by omega)
  refine obe_val (by rfl) ?_ ?_
  · clear k1_b4_0 g1_b4_0 k1_b4_1 g1_b4_1 k1_b4_2 g1_b4_2 k1_b4_3 g1_b4_3 k1_b5_0 g1_b5_0 k1_b5_1 g1_b5_1 k1_b5_2 g1_b5_2 k1_b5_3 g1_b5_3 k1_b6_0 g1_b6_0 k1_b6_1 g1_b6_1 k1_b6_2 g1_b6_2 k1_g7_0 g1_g7_0 k1_g7_1 g1_g7_1 k1_g7_2 g1_g7_2 B1 z1; intro f hf; have u20 : f 20 = (.int .i64 d) := (by rw [← hf]; rfl); clear hf; rintro w' ⟨h0, h1, h2, h3, h4, h5, h6, h7, h8, h9, h10, h11, h12, h13, h14, h15, h16, h17, h18, h19, h20, h21, h22, h23, h24, h25, h26, h27⟩; go_simp; try exact IntWalk.i64_in _ (by omega)
  refine obe_nil ?_
  rintro w2 ⟨h0, h1, h2, h3, h4, h5, h6, h7, h8, h9, h10, h11, h12, h13, h14, h15, h16, h17, h18, h19, h20, h21, h22, h23, h24, h25, h26, h27⟩ hb2 hF
  (try simp only [List.nil_append, List.append_nil, List.cons_append] at hF)
  simp only [puts, putD, Act.put, List.setIfInBounds_toArray, List.set_cons_zero, List.set_cons_succ]
  clear hF
  have k2_b4_0 := bcs hb2 k1_b4_0
  have g2_b4_0 := bfs hb2 k1_b4_0 g1_b4_0
  have k2_b4_1 := bcs hb2 k1_b4_1
  have g2_b4_1 := bfs hb2 k1_b4_1 g1_b4_1
  have k2_b4_2 := bcs hb2 k1_b4_2
  have g2_b4_2 := bfs hb2 k1_b4_2 g1_b4_2
  have k2_b4_3 := bcs hb2 k1_b4_3
  have g2_b4_3 := bfs hb2 k1_b4_3 g1_b4_3
  have k2_b5_0 := bcs hb2 k1_b5_0
  have g2_b5_0 := bfs hb2 k1_b5_0 g1_b5_0
  have k2_b5_1 := bcs hb2 k1_b5_1
  have g2_b5_1 := bfs hb2 k1_b5_1 g1_b5_1
  have k2_b5_2 := bcs hb2 k1_b5_2
  have g2_b5_2 := bfs hb2 k1_b5_2 g1_b5_2
  have k2_b5_3 := bcs hb2 k1_b5_3
  have g2_b5_3 := bfs hb2 k1_b5_3 g1_b5_3
  have k2_b6_0 := bcs hb2 k1_b6_0
  have g2_b6_0 := bfs hb2 k1_b6_0 g1_b6_0
  have k2_b6_1 := bcs hb2 k1_b6_1
  have g2_b6_1 := bfs hb2 k1_b6_1 g1_b6_1
  have k2_b6_2 := bcs hb2 k1_b6_2
  have g2_b6_2 := bfs hb2 k1_b6_2 g1_b6_2
  have k2_g7_0 := bcs hb2 k1_g7_0
  have g2_g7_0 := bfs hb2 k1_g7_0 g1_g7_0
  have k2_g7_1 := bcs hb2 k1_g7_1
  have g2_g7_1 := bfs hb2 k1_g7_1 g1_g7_1
  have k2_g7_2 := bcs hb2 k1_g7_2
  have g2_g7_2 := bfs hb2 k1_g7_2 g1_g7_2
  clear h0 h1 h2 h3 h4 h5 h6 h7 h8 h9 h10 h11 h12 h13 h14 h15 h16 h17 h18 h19 h20 h21 h22 h23 h24 h25 h26 h27
  have B2 := bel_step B1 hb2
  have z2 := Nat.le_trans z1 hb2.size
  clear hb2
  (try clear B1)
  (try clear z1)
  (try clear k1_b4_0)
  (try clear g1_b4_0)
  (try clear k1_b4_1)
  (try clear g1_b4_1)
  (try clear k1_b4_2)
  (try clear g1_b4_2)
  (try clear k1_b4_3)
  (try clear g1_b4_3)
  (try clear k1_b5_0)
  (try clear g1_b5_0)
  (try clear k1_b5_1)
  (try clear g1_b5_1)
  (try clear k1_b5_2)
  (try clear g1_b5_2)
  (try clear k1_b5_3)
  (try clear g1_b5_3)
  (try clear k1_b6_0)
  (try clear g1_b6_0)
  (try clear k1_b6_1)
  (try clear g1_b6_1)
  (try clear k1_b6_2)
  (try clear g1_b6_2)
  (try clear k1_g7_0)
  (try clear g1_g7_0)
  (try clear k1_g7_1)
  (try clear g1_g7_1)
  (try clear k1_g7_2)
  (try clear g1_g7_2)
  (try clear q1_b4)
  (try clear x1_b4)
  (try clear y1_b4)
  (try clear q1_b5)
  (try clear x1_b5)
  (try clear y1_b5)
  (try clear q1_b6)
  (try clear x1_b6)
  (try clear y1_b6)
  (try clear q1_g7)
  (try clear x1_g7)
  (try clear y1_g7)
  have q2_b4 : w.heap.size < w2.heap.size := qlt k2_b4_0
  have x2_b4 : ¬ w.heap.size = w2.heap.size := qne k2_b4_0
  have y2_b4 : ¬ w2.heap.size = w.heap.size := fun h => qne k2_b4_0 h.symm
  have q2_b5 : w.heap.size + 1 < w2.heap.size := qlt k2_b5_0
  have x2_b5 : ¬ w.heap.size + 1 = w2.heap.size := qne k2_b5_0
  have y2_b5 : ¬ w2.heap.size = w.heap.size + 1 := fun h => qne k2_b5_0 h.symm
  have q2_b6 : w.heap.size + 1 + 1 < w2.heap.size := qlt k2_b6_0
  have x2_b6 : ¬ w.heap.size + 1 + 1 = w2.heap.size := qne k2_b6_0
  have y2_b6 : ¬ w2.heap.size = w.heap.size + 1 + 1 := fun h => qne k2_b6_0 h.symm
  have q2_g7 : w.heap.size + 1 + 1 + 1 < w2.heap.size := qlt k2_g7_0
  have x2_g7 : ¬ w.heap.size + 1 + 1 + 1 = w2.heap.size := qne k2_g7_0
  have y2_g7 : ¬ w2.heap.size = w.heap.size + 1 + 1 + 1 := fun h => qne k2_g7_0 h.symm
  unfold wpList
  go_wp2
  refine wp_region_env (fun w' => w'.cell? ⟨w.heap.size, 0, none⟩ = some (.int .u8 r) ∧ w'.frozen? ⟨w.heap.size, 0, none⟩ = false ∧ w'.cell? ⟨w.heap.size, 1, none⟩ = some (.int .u8 g) ∧ w'.frozen? ⟨w.heap.size, 1, none⟩ = false ∧ w'.cell? ⟨w.heap.size, 2, none⟩ = some (.int .u8 b) ∧ w'.frozen? ⟨w.heap.size, 2, none⟩ = false ∧ w'.cell? ⟨w.heap.size, 3, none⟩ = some (.int .u8 a) ∧ w'.frozen? ⟨w.heap.size, 3, none⟩ = false ∧ w'.cell? ⟨w.heap.size + 1, 0, none⟩ = some (.int .u8 s) ∧ w'.frozen? ⟨w.heap.size + 1, 0, none⟩ = false ∧ w'.cell? ⟨w.heap.size + 1, 1, none⟩ = some (.int .u8 t) ∧ w'.frozen? ⟨w.heap.size + 1, 1, none⟩ = false ∧ w'.cell? ⟨w.heap.size + 1, 2, none⟩ = some (.int .u8 u) ∧ w'.frozen? ⟨w.heap.size + 1, 2, none⟩ = false ∧ w'.cell? ⟨w.heap.size + 1, 3, none⟩ = some (.int .u8 d) ∧ w'.frozen? ⟨w.heap.size + 1, 3, none⟩ = false ∧ w'.cell? ⟨w.heap.size + 1 + 1, 0, none⟩ = some (.int .u8 0) ∧ w'.frozen? ⟨w.heap.size + 1 + 1, 0, none⟩ = false ∧ w'.cell? ⟨w.heap.size + 1 + 1, 1, none⟩ = some (.int .u8 0) ∧ w'.frozen? ⟨w.heap.size + 1 + 1, 1, none⟩ = false ∧ w'.cell? ⟨w.heap.size + 1 + 1, 2, none⟩ = some (.int .u8 0) ∧ w'.frozen? ⟨w.heap.size + 1 + 1, 2, none⟩ = false ∧ w'.cell? ⟨w.heap.size + 1 + 1 + 1, 0, none⟩ = some (.int .u8 0) ∧ w'.frozen? ⟨w.heap.size + 1 + 1 + 1, 0, none⟩ = false ∧ w'.cell? ⟨w.heap.size + 1 + 1 + 1, 1, none⟩ = some (.int .u8 0) ∧ w'.frozen? ⟨w.heap.size + 1 + 1 + 1, 1, none⟩ = false ∧ w'.cell? ⟨w.heap.size + 1 + 1 + 1, 2, none⟩ = some (.int .u8 0) ∧ w'.frozen? ⟨w.heap.size + 1 + 1 + 1, 2, none⟩ = false) (fun W => W.cell? ⟨w.heap.size, 0, none⟩ = some (.int .u8 r) ∧ W.frozen? ⟨w.heap.size, 0, none⟩ = false ∧ W.cell? ⟨w.heap.size, 1, none⟩ = some (.int .u8 g) ∧ W.frozen? ⟨w.heap.size, 1, none⟩ = false ∧ W.cell? ⟨w.heap.size, 2, none⟩ = some (.int .u8 b) ∧ W.frozen? ⟨w.heap.size, 2, none⟩ = false ∧ W.cell? ⟨w.heap.size, 3, none⟩ = some (.int .u8 a) ∧ W.frozen? ⟨w.heap.size, 3, none⟩ = false ∧ W.cell? ⟨w.heap.size + 1, 0, none⟩ = some (.int .u8 s) ∧ W.frozen? ⟨w.heap.size + 1, 0, none⟩ = false ∧ W.cell? ⟨w.heap.size + 1, 1, none⟩ = some (.int .u8 t) ∧ W.frozen? ⟨w.heap.size + 1, 1, none⟩ = false ∧ W.cell? ⟨w.heap.size + 1, 2, none⟩ = some (.int .u8 u) ∧ W.frozen? ⟨w.heap.size + 1, 2, none⟩ = false ∧ W.cell? ⟨w.heap.size + 1, 3, none⟩ = some (.int .u8 d) ∧ W.frozen? ⟨w.heap.size + 1, 3, none⟩ = false ∧ W.cell? ⟨w.heap.size + 1 + 1, 0, none⟩ = some (.int .u8 0) ∧ W.frozen? ⟨w.heap.size + 1 + 1, 0, none⟩ = false ∧ W.cell? ⟨w.heap.size + 1 + 1, 1, none⟩ = some (.int .u8 0) ∧ W.frozen? ⟨w.heap.size + 1 + 1, 1, none⟩ = false ∧ W.cell? ⟨w.heap.size + 1 + 1, 2, none⟩ = some (.int .u8 0) ∧ W.frozen? ⟨w.heap.size + 1 + 1, 2, none⟩ = false ∧ W.cell? ⟨w.heap.size + 1 + 1 + 1, 0, none⟩ = some (.int .u8 0) ∧ W.frozen? ⟨w.heap.size + 1 + 1 + 1, 0, none⟩ = false ∧ W.cell? ⟨w.heap.size + 1 + 1 + 1, 1, none⟩ = some (.int .u8 0) ∧ W.frozen? ⟨w.heap.size + 1 + 1 + 1, 1, none⟩ = false ∧ W.cell? ⟨w.heap.size + 1 + 1 + 1, 2, none⟩ = some (.int .u8 0) ∧ W.frozen? ⟨w.heap.size + 1 + 1 + 1, 2, none⟩ = false ∧ Below w.heap.size w W ∧ w.heap.size + 1 + 1 + 1 + 1 ≤ W.heap.size) 6 51 [.val (.agg #[.int .u8 r, .int .u8 g, .int .u8 b, .int .u8 a]), .call 45 #[.agg #[.int .u8 r, .int .u8 g, .int .u8 b, .int .u8 a]] (.agg #[.int .i64 r, .int .i64 g, .int .i64 b]), .val (.agg #[.int .u8 s, .int .u8 t, .int .u8 u, .int .u8 d]), .call 45 #[.agg #[.int .u8 s, .int .u8 t, .int .u8 u, .int .u8 d]] (.agg #[.int .i64 s, .int .i64 t, .int .i64 u]), .fresh (.cells #[.int .i64 0, .int .i64 0, .int .i64 0] 58), .fresh (.cells #[.int .i64 0, .int .i64 0, .int .i64 0] 58)] (by kernel_rfl) (by kernel_rfl) rfl (by kernel_rfl) (by rintro w1 w2 ⟨h0, h1, h2, h3, h4, h5, h6, h7, h8, h9, h10, h11, h12, h13, h14, h15, h16, h17, h18, h19, h20, h21, h22, h23, h24, h25, h26, h27⟩ hb; exact ⟨bcs hb h0, bfs hb h0 h1, bcs hb h2, bfs hb h2 h3, bcs hb h4, bfs hb h4 h5, bcs hb h6, bfs hb h6 h7, bcs hb h8, bfs hb h8 h9, bcs hb h10, bfs hb h10 h11, bcs hb h12, bfs hb h12 h13, bcs hb h14, bfs hb h14 h15, bcs hb h16, bfs hb h16 h17, bcs hb h18, bfs hb h18 h19, bcs hb h20, bfs hb h20 h21, bcs hb h22, bfs hb h22 h23, bcs hb h24, bfs hb h24 h25, bcs hb h26, bfs hb h26 h27⟩) ⟨by first | with_reducible assumption | go_simp, by first | with_reducible assumption | go_simp, by first | with_reducible assumption | go_simp, by first | with_reducible assumption | go_simp, by first | with_reducible assumption | go_simp, by first | with_reducible assumption | go_simp, by first | with_reducible assumption | go_simp, by first | with_reducible assumption | go_simp, by first | with_reducible assumption | go_simp, by first | with_reducible assumption | go_simp, by first | with_reducible assumption | go_simp, by first | with_reducible assumption | go_simp, by first | with_reducible assumption | go_simp, by first | with_reducible assumption | go_simp, by first | with_reducible assumption | go_simp, by first | with_reducible assumption | go_simp, by first | with_reducible assumption | go_simp, by first | with_reducible assumption | go_simp, by first | with_reducible assumption | go_simp, by first | with_reducible assumption | go_simp, by first | with_reducible assumption | go_simp, by first | with_reducible assumption | go_simp, by first | with_reducible assumption | go_simp, by first | with_reducible assumption | go_simp, by first | with_reducible assumption | go_simp, by first | with_reducible assumption | go_simp, by first | with_reducible assumption | go_simp, by first | with_reducible assumption | go_simp, by repeat (first | with_reducible exact Below.refl _ _ | with_reducible exact B2 | with_reducible apply below_drewN | with_reducible apply Below.drew | (with_reducible refine Below.alloc ?_ (by first | (simp; done) | (simp; omega) | omega) _) | (with_reducible refine Below.setCell ?_ (by first | (simp; done) | (simp; omega) | omega) _)), by first | with_reducible assumption | (simp; done) | (simp; omega)⟩ ?_ ?_
  · rintro W ⟨k3_b4_0, g3_b4_0, k3_b4_1, g3_b4_1, k3_b4_2, g3_b4_2, k3_b4_3, g3_b4_3, k3_b5_0, g3_b5_0, k3_b5_1, g3_b5_1, k3_b5_2, g3_b5_2, k3_b5_3, g3_b5_3, k3_b6_0, g3_b6_0, k3_b6_1, g3_b6_1, k3_b6_2, g3_b6_2, k3_g7_0, g3_g7_0, k3_g7_1, g3_g7_1, k3_g7_2, g3_g7_2, B3, z3⟩; exact ⟨k3_b4_0, g3_b4_0, k3_b4_1, g3_b4_1, k3_b4_2, g3_b4_2, k3_b4_3, g3_b4_3, k3_b5_0, g3_b5_0, k3_b5_1, g3_b5_1, k3_b5_2, g3_b5_2, k3_b5_3, g3_b5_3, k3_b6_0, g3_b6_0, k3_b6_1, g3_b6_1, k3_b6_2, g3_b6_2, k3_g7_0, g3_g7_0, k3_g7_1, g3_g7_1, k3_g7_2, g3_g7_2⟩
  (try clear B2)
  (try clear z2)
  (try clear k2_b4_0)
  (try clear g2_b4_0)
  (try clear k2_b4_1)
  (try clear g2_b4_1)
  (try clear k2_b4_2)
  (try clear g2_b4_2)
  (try clear k2_b4_3)
  (try clear g2_b4_3)
  (try clear k2_b5_0)
  (try clear g2_b5_0)
  (try clear k2_b5_1)
  (try clear g2_b5_1)
  (try clear k2_b5_2)
  (try clear g2_b5_2)
  (try clear k2_b5_3)
  (try clear g2_b5_3)
  (try clear k2_b6_0)
  (try clear g2_b6_0)
  (try clear k2_b6_1)
  (try clear g2_b6_1)
  (try clear k2_b6_2)
  (try clear g2_b6_2)
  (try clear k2_g7_0)
  (try clear g2_g7_0)
  (try clear k2_g7_1)
  (try clear g2_g7_1)
  (try clear k2_g7_2)
  (try clear g2_g7_2)
  (try clear q2_b4)
  (try clear x2_b4)
  (try clear y2_b4)
  (try clear q2_b5)
  (try clear x2_b5)
  (try clear y2_b5)
  (try clear q2_b6)
  (try clear x2_b6)
  (try clear y2_b6)
  (try clear q2_g7)
  (try clear x2_g7)
  (try clear y2_g7)
  rintro w3 ⟨k3_b4_0, g3_b4_0, k3_b4_1, g3_b4_1, k3_b4_2, g3_b4_2, k3_b4_3, g3_b4_3, k3_b5_0, g3_b5_0, k3_b5_1, g3_b5_1, k3_b5_2, g3_b5_2, k3_b5_3, g3_b5_3, k3_b6_0, g3_b6_0, k3_b6_1, g3_b6_1, k3_b6_2, g3_b6_2, k3_g7_0, g3_g7_0, k3_g7_1, g3_g7_1, k3_g7_2, g3_g7_2, B3, z3⟩ gg
  simp only [List.take_succ_cons, List.take_zero, List.drop_succ_cons, List.drop_zero, List.cons_append, List.nil_append, List.append_nil]
  refine obe_val (by rfl) ?_ ?_
  · clear k3_b4_0 g3_b4_0 k3_b4_1 g3_b4_1 k3_b4_2 g3_b4_2 k3_b4_3 g3_b4_3 k3_b5_0 g3_b5_0 k3_b5_1 g3_b5_1 k3_b5_2 g3_b5_2 k3_b5_3 g3_b5_3 k3_b6_0 g3_b6_0 k3_b6_1 g3_b6_1 k3_b6_2 g3_b6_2 k3_g7_0 g3_g7_0 k3_g7_1 g3_g7_1 k3_g7_2 g3_g7_2 B3 z3; intro f hf; have u4 : f 4 = (.pointer (some ⟨w.heap.size, 0, none⟩)) := (by rw [← hf]; rfl); clear hf; rintro w' ⟨h0, h1, h2, h3, h4, h5, h6, h7, h8, h9, h10, h11, h12, h13, h14, h15, h16, h17, h18, h19, h20, h21, h22, h23, h24, h25, h26, h27⟩; go_simp; try exact IntWalk.i64_in _ (by omega)
  refine obe_call (by rfl) ?_ ?_ ?_
  · clear k3_b4_0 g3_b4_0 k3_b4_1 g3_b4_1 k3_b4_2 g3_b4_2 k3_b4_3 g3_b4_3 k3_b5_0 g3_b5_0 k3_b5_1 g3_b5_1 k3_b5_2 g3_b5_2 k3_b5_3 g3_b5_3 k3_b6_0 g3_b6_0 k3_b6_1 g3_b6_1 k3_b6_2 g3_b6_2 k3_g7_0 g3_g7_0 k3_g7_1 g3_g7_1 k3_g7_2 g3_g7_2 B3 z3; intro f hf; have u21 : f 21 = (.agg #[.int .u8 r, .int .u8 g, .int .u8 b, .int .u8 a]) := (by rw [← hf]; rfl); clear hf; intro w' _; simp only [execOp, resolve, invoke, rhoF_tmp, rhoF_func, rhoF_const, u21, List.map_toArray, List.map_cons, List.map_nil]; go_simp
  · clear k3_b4_0 g3_b4_0 k3_b4_1 g3_b4_1 k3_b4_2 g3_b4_2 k3_b4_3 g3_b4_3 k3_b5_0 g3_b5_0 k3_b5_1 g3_b5_1 k3_b5_2 g3_b5_2 k3_b5_3 g3_b5_3 k3_b6_0 g3_b6_0 k3_b6_1 g3_b6_1 k3_b6_2 g3_b6_2 k3_g7_0 g3_g7_0 k3_g7_1 g3_g7_1 k3_g7_2 g3_g7_2 B3 z3; rintro w' ⟨h0, h1, h2, h3, h4, h5, h6, h7, h8, h9, h10, h11, h12, h13, h14, h15, h16, h17, h18, h19, h20, h21, h22, h23, h24, h25, h26, h27⟩; exact comps_any r g b a r0 r1 g0 g1 b0 b1 a0 a1 _
  refine obe_val (by rfl) ?_ ?_
  · clear k3_b4_0 g3_b4_0 k3_b4_1 g3_b4_1 k3_b4_2 g3_b4_2 k3_b4_3 g3_b4_3 k3_b5_0 g3_b5_0 k3_b5_1 g3_b5_1 k3_b5_2 g3_b5_2 k3_b5_3 g3_b5_3 k3_b6_0 g3_b6_0 k3_b6_1 g3_b6_1 k3_b6_2 g3_b6_2 k3_g7_0 g3_g7_0 k3_g7_1 g3_g7_1 k3_g7_2 g3_g7_2 B3 z3; intro f hf; have u5 : f 5 = (.pointer (some ⟨w.heap.size + 1, 0, none⟩)) := (by rw [← hf]; rfl); clear hf; rintro w' ⟨h0, h1, h2, h3, h4, h5, h6, h7, h8, h9, h10, h11, h12, h13, h14, h15, h16, h17, h18, h19, h20, h21, h22, h23, h24, h25, h26, h27⟩; go_simp; try exact IntWalk.i64_in _ (by omega)
  refine obe_call (by rfl) ?_ ?_ ?_
  · clear k3_b4_0 g3_b4_0 k3_b4_1 g3_b4_1 k3_b4_2 g3_b4_2 k3_b4_3 g3_b4_3 k3_b5_0 g3_b5_0 k3_b5_1 g3_b5_1 k3_b5_2 g3_b5_2 k3_b5_3 g3_b5_3 k3_b6_0 g3_b6_0 k3_b6_1 g3_b6_1 k3_b6_2 g3_b6_2 k3_g7_0 g3_g7_0 k3_g7_1 g3_g7_1 k3_g7_2 g3_g7_2 B3 z3; intro f hf; have u23 : f 23 = (.agg #[.int .u8 s, .int .u8 t, .int .u8 u, .int .u8 d]) := (by rw [← hf]; rfl); clear hf; intro w' _; simp only [execOp, resolve, invoke, rhoF_tmp, rhoF_func, rhoF_const, u23, List.map_toArray, List.map_cons, List.map_nil]; go_simp
  · clear k3_b4_0 g3_b4_0 k3_b4_1 g3_b4_1 k3_b4_2 g3_b4_2 k3_b4_3 g3_b4_3 k3_b5_0 g3_b5_0 k3_b5_1 g3_b5_1 k3_b5_2 g3_b5_2 k3_b5_3 g3_b5_3 k3_b6_0 g3_b6_0 k3_b6_1 g3_b6_1 k3_b6_2 g3_b6_2 k3_g7_0 g3_g7_0 k3_g7_1 g3_g7_1 k3_g7_2 g3_g7_2 B3 z3; rintro w' ⟨h0, h1, h2, h3, h4, h5, h6, h7, h8, h9, h10, h11, h12, h13, h14, h15, h16, h17, h18, h19, h20, h21, h22, h23, h24, h25, h26, h27⟩; exact comps_any s t u d s0 s1 t0 t1 u0 u1 d0 d1 _
  refine obe_fresh (by rfl) ?_ ?_
  · clear k3_b4_0 g3_b4_0 k3_b4_1 g3_b4_1 k3_b4_2 g3_b4_2 k3_b4_3 g3_b4_3 k3_b5_0 g3_b5_0 k3_b5_1 g3_b5_1 k3_b5_2 g3_b5_2 k3_b5_3 g3_b5_3 k3_b6_0 g3_b6_0 k3_b6_1 g3_b6_1 k3_b6_2 g3_b6_2 k3_g7_0 g3_g7_0 k3_g7_1 g3_g7_1 k3_g7_2 g3_g7_2 B3 z3; intro f hf; clear hf; rintro w' ⟨h0, h1, h2, h3, h4, h5, h6, h7, h8, h9, h10, h11, h12, h13, h14, h15, h16, h17, h18, h19, h20, h21, h22, h23, h24, h25, h26, h27⟩; go_simp
  refine obe_fresh (by rfl) ?_ ?_
  · clear k3_b4_0 g3_b4_0 k3_b4_1 g3_b4_1 k3_b4_2 g3_b4_2 k3_b4_3 g3_b4_3 k3_b5_0 g3_b5_0 k3_b5_1 g3_b5_1 k3_b5_2 g3_b5_2 k3_b5_3 g3_b5_3 k3_b6_0 g3_b6_0 k3_b6_1 g3_b6_1 k3_b6_2 g3_b6_2 k3_g7_0 g3_g7_0 k3_g7_1 g3_g7_1 k3_g7_2 g3_g7_2 B3 z3; intro f hf; clear hf; rintro w' ⟨h0, h1, h2, h3, h4, h5, h6, h7, h8, h9, h10, h11, h12, h13, h14, h15, h16, h17, h18, h19, h20, h21, h22, h23, h24, h25, h26, h27⟩; go_simp
  refine obe_nil ?_
  rintro w4 ⟨h0, h1, h2, h3, h4, h5, h6, h7, h8, h9, h10, h11, h12, h13, h14, h15, h16, h17, h18, h19, h20, h21, h22, h23, h24, h25, h26, h27⟩ hb4 hF
  (try simp only [List.nil_append, List.append_nil, List.cons_append] at hF)
  simp only [puts, putD, Act.put, List.setIfInBounds_toArray, List.set_cons_zero, List.set_cons_succ]
  have lg10 : w3.heap.size ≤ gg 4 := hF.1.1
  have ug10 : gg 4 < w4.heap.size := hF.1.2.1
  have pg10 : w4.heap[gg 4]? = some (.cells #[.int .i64 0, .int .i64 0, .int .i64 0] 58) := hF.1.2.2
  have ng10_g11 : ¬ gg 4 = gg 5 := hF.2.1 (5, .cells #[.int .i64 0, .int .i64 0, .int .i64 0] 58) (by simp)
  have lg11 : w3.heap.size ≤ gg 5 := hF.2.2.1.1
  have ug11 : gg 5 < w4.heap.size := hF.2.2.1.2.1
  have pg11 : w4.heap[gg 5]? = some (.cells #[.int .i64 0, .int .i64 0, .int .i64 0] 58) := hF.2.2.1.2.2
  clear hF
  obtain ⟨g10, eg10⟩ : ∃ x, gg 4 = x := ⟨_, rfl⟩
  rw [eg10] at lg10 ug10 pg10 ng10_g11 ⊢
  clear eg10
  obtain ⟨g11, eg11⟩ : ∃ x, gg 5 = x := ⟨_, rfl⟩
  rw [eg11] at lg11 ug11 pg11 ng10_g11 ⊢
  clear eg11
  clear gg
  have k4_b4_0 := bcs hb4 k3_b4_0
  have g4_b4_0 := bfs hb4 k3_b4_0 g3_b4_0
  have k4_b4_1 := bcs hb4 k3_b4_1
  have g4_b4_1 := bfs hb4 k3_b4_1 g3_b4_1
  have k4_b4_2 := bcs hb4 k3_b4_2
  have g4_b4_2 := bfs hb4 k3_b4_2 g3_b4_2
  have k4_b4_3 := bcs hb4 k3_b4_3
  have g4_b4_3 := bfs hb4 k3_b4_3 g3_b4_3
  have k4_b5_0 := bcs hb4 k3_b5_0
  have g4_b5_0 := bfs hb4 k3_b5_0 g3_b5_0
  have k4_b5_1 := bcs hb4 k3_b5_1
  have g4_b5_1 := bfs hb4 k3_b5_1 g3_b5_1
  have k4_b5_2 := bcs hb4 k3_b5_2
  have g4_b5_2 := bfs hb4 k3_b5_2 g3_b5_2
  have k4_b5_3 := bcs hb4 k3_b5_3
  have g4_b5_3 := bfs hb4 k3_b5_3 g3_b5_3
  have k4_b6_0 := bcs hb4 k3_b6_0
  have g4_b6_0 := bfs hb4 k3_b6_0 g3_b6_0
  have k4_b6_1 := bcs hb4 k3_b6_1
  have g4_b6_1 := bfs hb4 k3_b6_1 g3_b6_1
  have k4_b6_2 := bcs hb4 k3_b6_2
  have g4_b6_2 := bfs hb4 k3_b6_2 g3_b6_2
  have k4_g7_0 := bcs hb4 k3_g7_0
  have g4_g7_0 := bfs hb4 k3_g7_0 g3_g7_0
  have k4_g7_1 := bcs hb4 k3_g7_1
  have g4_g7_1 := bfs hb4 k3_g7_1 g3_g7_1
  have k4_g7_2 := bcs hb4 k3_g7_2
  have g4_g7_2 := bfs hb4 k3_g7_2 g3_g7_2
  clear h0 h1 h2 h3 h4 h5 h6 h7 h8 h9 h10 h11 h12 h13 h14 h15 h16 h17 h18 h19 h20 h21 h22 h23 h24 h25 h26 h27
  have B4 := bel_step B3 hb4
  have z4 := Nat.le_trans z3 hb4.size
  have mg10 : w.heap.size ≤ g10 := by omega
  have ng10_b4 : ¬ g10 = w.heap.size := by omega
  have nb4_g10 : ¬ w.heap.size = g10 := by omega
  have ng10_b5 : ¬ g10 = w.heap.size + 1 := by omega
  have nb5_g10 : ¬ w.heap.size + 1 = g10 := by omega
  have ng10_b6 : ¬ g10 = w.heap.size + 1 + 1 := by omega
  have nb6_g10 : ¬ w.heap.size + 1 + 1 = g10 := by omega
  have ng10_g7 : ¬ g10 = w.heap.size + 1 + 1 + 1 := by omega
  have ng7_g10 : ¬ w.heap.size + 1 + 1 + 1 = g10 := by omega
  have k4_g10_0 : w4.cell? ⟨g10, 0, none⟩ = some (.int .i64 0) := cob pg10 0 rfl
  have g4_g10_0 : w4.frozen? ⟨g10, 0, none⟩ = false := fob pg10 0
  have k4_g10_1 : w4.cell? ⟨g10, 1, none⟩ = some (.int .i64 0) := cob pg10 1 rfl
  have g4_g10_1 : w4.frozen? ⟨g10, 1, none⟩ = false := fob pg10 1
  have k4_g10_2 : w4.cell? ⟨g10, 2, none⟩ = some (.int .i64 0) := cob pg10 2 rfl
  have g4_g10_2 : w4.frozen? ⟨g10, 2, none⟩ = false := fob pg10 2
  have mg11 : w.heap.size ≤ g11 := by omega
  have ng11_b4 : ¬ g11 = w.heap.size := by omega
  have nb4_g11 : ¬ w.heap.size = g11 := by omega
  have ng11_b5 : ¬ g11 = w.heap.size + 1 := by omega
  have nb5_g11 : ¬ w.heap.size + 1 = g11 := by omega
  have ng11_b6 : ¬ g11 = w.heap.size + 1 + 1 := by omega
  have nb6_g11 : ¬ w.heap.size + 1 + 1 = g11 := by omega
  have ng11_g7 : ¬ g11 = w.heap.size + 1 + 1 + 1 := by omega
  have ng7_g11 : ¬ w.heap.size + 1 + 1 + 1 = g11 := by omega
  have k4_g11_0 : w4.cell? ⟨g11, 0, none⟩ = some (.int .i64 0) := cob pg11 0 rfl
  have g4_g11_0 : w4.frozen? ⟨g11, 0, none⟩ = false := fob pg11 0
  have k4_g11_1 : w4.cell? ⟨g11, 1, none⟩ = some (.int .i64 0) := cob pg11 1 rfl
  have g4_g11_1 : w4.frozen? ⟨g11, 1, none⟩ = false := fob pg11 1
  have k4_g11_2 : w4.cell? ⟨g11, 2, none⟩ = some (.int .i64 0) := cob pg11 2 rfl
  have g4_g11_2 : w4.frozen? ⟨g11, 2, none⟩ = false := fob pg11 2
  have ng11_g10 : ¬ g11 = g10 := fun h => ng10_g11 h.symm
  clear lg10 ug10 pg10
  clear lg11 ug11 pg11
  clear hb4
  (try clear B3)
  (try clear z3)
  (try clear k3_b4_0)
  (try clear g3_b4_0)
  (try clear k3_b4_1)
  (try clear g3_b4_1)
  (try clear k3_b4_2)
  (try clear g3_b4_2)
  (try clear k3_b4_3)
  (try clear g3_b4_3)
  (try clear k3_b5_0)
  (try clear g3_b5_0)
  (try clear k3_b5_1)
  (try clear g3_b5_1)
  (try clear k3_b5_2)
  (try clear g3_b5_2)
  (try clear k3_b5_3)
  (try clear g3_b5_3)
  (try clear k3_b6_0)
  (try clear g3_b6_0)
  (try clear k3_b6_1)
  (try clear g3_b6_1)
  (try clear k3_b6_2)
  (try clear g3_b6_2)
  (try clear k3_g7_0)
  (try clear g3_g7_0)
  (try clear k3_g7_1)
  (try clear g3_g7_1)
  (try clear k3_g7_2)
  (try clear g3_g7_2)
  (try clear q3_b4)
  (try clear x3_b4)
  (try clear y3_b4)
  (try clear q3_b5)
  (try clear x3_b5)
  (try clear y3_b5)
  (try clear q3_b6)
  (try clear x3_b6)
  (try clear y3_b6)
  (try clear q3_g7)
  (try clear x3_g7)
  (try clear y3_g7)
  have q4_b4 : w.heap.size < w4.heap.size := qlt k4_b4_0
  have x4_b4 : ¬ w.heap.size = w4.heap.size := qne k4_b4_0
  have y4_b4 : ¬ w4.heap.size = w.heap.size := fun h => qne k4_b4_0 h.symm
  have q4_b5 : w.heap.size + 1 < w4.heap.size := qlt k4_b5_0
  have x4_b5 : ¬ w.heap.size + 1 = w4.heap.size := qne k4_b5_0
  have y4_b5 : ¬ w4.heap.size = w.heap.size + 1 := fun h => qne k4_b5_0 h.symm
  have q4_b6 : w.heap.size + 1 + 1 < w4.heap.size := qlt k4_b6_0
  have x4_b6 : ¬ w.heap.size + 1 + 1 = w4.heap.size := qne k4_b6_0
  have y4_b6 : ¬ w4.heap.size = w.heap.size + 1 + 1 := fun h => qne k4_b6_0 h.symm
  have q4_g7 : w.heap.size + 1 + 1 + 1 < w4.heap.size := qlt k4_g7_0
  have x4_g7 : ¬ w.heap.size + 1 + 1 + 1 = w4.heap.size := qne k4_g7_0
  have y4_g7 : ¬ w4.heap.size = w.heap.size + 1 + 1 + 1 := fun h => qne k4_g7_0 h.symm
  have q4_g10 : g10 < w4.heap.size := qlt k4_g10_0
  have x4_g10 : ¬ g10 = w4.heap.size := qne k4_g10_0
  have y4_g10 : ¬ w4.heap.size = g10 := fun h => qne k4_g10_0 h.symm
  have q4_g11 : g11 < w4.heap.size := qlt k4_g11_0
  have x4_g11 : ¬ g11 = w4.heap.size := qne k4_g11_0
  have y4_g11 : ¬ w4.heap.size = g11 := fun h => qne k4_g11_0 h.symm
  go_wp2
  go_loopw [25] (fun k wr => ∃ c0 c1 c2 : Int, BcInv w wr (w.heap.size + 1 + 1) (w.heap.size + 1 + 1 + 1) g10 g11 r g b s t u c0 c1 c2 ∧ ((k = .int .i64 0 ∧ c0 = 0 ∧ c1 = 0 ∧ c2 = 0) ∨ (k = .int .i64 1 ∧ x0 = c0 ∧ c1 = 0 ∧ c2 = 0) ∨ (k = .int .i64 2 ∧ x0 = c0 ∧ x1 = c1 ∧ c2 = 0) ∨ (k = .int .i64 3 ∧ x0 = c0 ∧ x1 = c1 ∧ x2 = c2))) (fun k _ => (3 - intOf k).toNat)
  case atStart =>
    refine ⟨0, 0, 0, ⟨by first | with_reducible assumption | go_simp, by first | with_reducible assumption | go_simp, by first | with_reducible assumption | go_simp, by first | with_reducible assumption | go_simp, by first | with_reducible assumption | go_simp, by first | with_reducible assumption | go_simp, by first | with_reducible assumption | go_simp, by first | with_reducible assumption | go_simp, by first | with_reducible assumption | go_simp, by first | with_reducible assumption | go_simp, by first | with_reducible assumption | go_simp, by first | with_reducible assumption | go_simp, by first | with_reducible assumption | go_simp, by first | with_reducible assumption | go_simp, by first | with_reducible assumption | go_simp, by first | with_reducible assumption | go_simp, by first | with_reducible assumption | go_simp, by first | with_reducible assumption | go_simp, by repeat (first | with_reducible exact Below.refl _ _ | with_reducible exact B4 | with_reducible apply below_drewN | with_reducible apply Below.drew | (with_reducible refine Below.alloc ?_ (by first | (simp; done) | (simp; omega) | omega) _) | (with_reducible refine Below.setCell ?_ (by first | (simp; done) | (simp; omega) | omega) _))⟩, .inl ⟨rfl, rfl, rfl, rfl⟩⟩
  case round =>
    obtain ⟨c0, c1, c2, ⟨kx0, gx0, kx1, gx1, kx2, gx2, ky0, gy0, ky1, gy1, ky2, gy2, kp0, kp1, kp2, kq0, kq1, kq2, hB⟩, hk⟩ := hrel
    rcases hk with ⟨rfl, rfl, rfl, rfl⟩ | ⟨rfl, rfl, rfl, rfl⟩ | ⟨rfl, rfl, rfl, rfl⟩ | ⟨rfl, rfl, rfl, rfl⟩
    · have hsx := qlt kx0
      have hsy := qlt ky0
      have hsz := hB.size
      go_wp2
      go_quiet (fail)
      go_wp2_with (first | (go_at_call 38; (with_reducible refine (cu0 _).mono ?_); rintro e w9 ⟨rfl, rfl⟩) | (go_at_call 38; (with_reducible refine (cu1 _).mono ?_); rintro e w9 ⟨rfl, rfl⟩) | (go_at_call 38; (with_reducible refine (cu2 _).mono ?_); rintro e w9 ⟨rfl, rfl⟩) | (go_at_call 46; (with_reducible refine (ct0 _).mono ?_); rintro e w9 ⟨rfl, rfl⟩) | (go_at_call 46; (with_reducible refine (ct1 _).mono ?_); rintro e w9 ⟨rfl, rfl⟩) | (go_at_call 46; (with_reducible refine (ct2 _).mono ?_); rintro e w9 ⟨rfl, rfl⟩) | (go_at_call 27; (with_reducible refine (cd0 _).mono ?_); rintro e w9 ⟨rfl, rfl⟩) | (go_at_call 27; (with_reducible refine (cd1 _).mono ?_); rintro e w9 ⟨rfl, rfl⟩) | (go_at_call 27; (with_reducible refine (cd2 _).mono ?_); rintro e w9 ⟨rfl, rfl⟩))
      go_roundw
      case rel => exact ⟨x0, 0, 0, ⟨by first | with_reducible assumption | go_simp, by first | with_reducible assumption | go_simp, by first | with_reducible assumption | go_simp, by first | with_reducible assumption | go_simp, by first | with_reducible assumption | go_simp, by first | with_reducible assumption | go_simp, by first | with_reducible assumption | go_simp, by first | with_reducible assumption | go_simp, by first | with_reducible assumption | go_simp, by first | with_reducible assumption | go_simp, by first | with_reducible assumption | go_simp, by first | with_reducible assumption | go_simp, by first | with_reducible assumption | go_simp, by first | with_reducible assumption | go_simp, by first | with_reducible assumption | go_simp, by first | with_reducible assumption | go_simp, by first | with_reducible assumption | go_simp, by first | with_reducible assumption | go_simp, by repeat (first | with_reducible exact hB | with_reducible apply below_drewN | with_reducible apply Below.drew | (with_reducible refine Below.alloc ?_ (by first | (simp; done) | (simp; omega) | omega) _) | (with_reducible refine Below.setCell ?_ (by first | (simp; done) | (simp; omega) | omega) _))⟩, .inr (.inl ⟨rfl, rfl, rfl, rfl⟩)⟩
      case measure => simp [intOf]
    · have hsx := qlt kx0
      have hsy := qlt ky0
      have hsz := hB.size
      go_wp2
      go_quiet (fail)
      go_wp2_with (first | (go_at_call 38; (with_reducible refine (cu0 _).mono ?_); rintro e w9 ⟨rfl, rfl⟩) | (go_at_call 38; (with_reducible refine (cu1 _).mono ?_); rintro e w9 ⟨rfl, rfl⟩) | (go_at_call 38; (with_reducible refine (cu2 _).mono ?_); rintro e w9 ⟨rfl, rfl⟩) | (go_at_call 46; (with_reducible refine (ct0 _).mono ?_); rintro e w9 ⟨rfl, rfl⟩) | (go_at_call 46; (with_reducible refine (ct1 _).mono ?_); rintro e w9 ⟨rfl, rfl⟩) | (go_at_call 46; (with_reducible refine (ct2 _).mono ?_); rintro e w9 ⟨rfl, rfl⟩) | (go_at_call 27; (with_reducible refine (cd0 _).mono ?_); rintro e w9 ⟨rfl, rfl⟩) | (go_at_call 27; (with_reducible refine (cd1 _).mono ?_); rintro e w9 ⟨rfl, rfl⟩) | (go_at_call 27; (with_reducible refine (cd2 _).mono ?_); rintro e w9 ⟨rfl, rfl⟩))
      go_roundw
      case rel => exact ⟨x0, x1, 0, ⟨by first | with_reducible assumption | go_simp, by first | with_reducible assumption | go_simp, by first | with_reducible assumption | go_simp, by first | with_reducible assumption | go_simp, by first | with_reducible assumption | go_simp, by first | with_reducible assumption | go_simp, by first | with_reducible assumption | go_simp, by first | with_reducible assumption | go_simp, by first | with_reducible assumption | go_simp, by first | with_reducible assumption | go_simp, by first | with_reducible assumption | go_simp, by first | with_reducible assumption | go_simp, by first | with_reducible assumption | go_simp, by first | with_reducible assumption | go_simp, by first | with_reducible assumption | go_simp, by first | with_reducible assumption | go_simp, by first | with_reducible assumption | go_simp, by first | with_reducible assumption | go_simp, by repeat (first | with_reducible exact hB | with_reducible apply below_drewN | with_reducible apply Below.drew | (with_reducible refine Below.alloc ?_ (by first | (simp; done) | (simp; omega) | omega) _) | (with_reducible refine Below.setCell ?_ (by first | (simp; done) | (simp; omega) | omega) _))⟩, .inr (.inr (.inl ⟨rfl, rfl, rfl, rfl⟩))⟩
      case measure => simp [intOf]
    · have hsx := qlt kx0
      have hsy := qlt ky0
      have hsz := hB.size
      go_wp2
      go_quiet (fail)
      go_wp2_with (first | (go_at_call 38; (with_reducible refine (cu0 _).mono ?_); rintro e w9 ⟨rfl, rfl⟩) | (go_at_call 38; (with_reducible refine (cu1 _).mono ?_); rintro e w9 ⟨rfl, rfl⟩) | (go_at_call 38; (with_reducible refine (cu2 _).mono ?_); rintro e w9 ⟨rfl, rfl⟩) | (go_at_call 46; (with_reducible refine (ct0 _).mono ?_); rintro e w9 ⟨rfl, rfl⟩) | (go_at_call 46; (with_reducible refine (ct1 _).mono ?_); rintro e w9 ⟨rfl, rfl⟩) | (go_at_call 46; (with_reducible refine (ct2 _).mono ?_); rintro e w9 ⟨rfl, rfl⟩) | (go_at_call 27; (with_reducible refine (cd0 _).mono ?_); rintro e w9 ⟨rfl, rfl⟩) | (go_at_call 27; (with_reducible refine (cd1 _).mono ?_); rintro e w9 ⟨rfl, rfl⟩) | (go_at_call 27; (with_reducible refine (cd2 _).mono ?_); rintro e w9 ⟨rfl, rfl⟩))
      go_roundw
      case rel => exact ⟨x0, x1, x2, ⟨by first | with_reducible assumption | go_simp, by first | with_reducible assumption | go_simp, by first | with_reducible assumption | go_simp, by first | with_reducible assumption | go_simp, by first | with_reducible assumption | go_simp, by first | with_reducible assumption | go_simp, by first | with_reducible assumption | go_simp, by first | with_reducible assumption | go_simp, by first | with_reducible assumption | go_simp, by first | with_reducible assumption | go_simp, by first | with_reducible assumption | go_simp, by first | with_reducible assumption | go_simp, by first | with_reducible assumption | go_simp, by first | with_reducible assumption | go_simp, by first | with_reducible assumption | go_simp, by first | with_reducible assumption | go_simp, by first | with_reducible assumption | go_simp, by first | with_reducible assumption | go_simp, by repeat (first | with_reducible exact hB | with_reducible apply below_drewN | with_reducible apply Below.drew | (with_reducible refine Below.alloc ?_ (by first | (simp; done) | (simp; omega) | omega) _) | (with_reducible refine Below.setCell ?_ (by first | (simp; done) | (simp; omega) | omega) _))⟩, .inr (.inr (.inr (⟨rfl, rfl, rfl, rfl⟩)))⟩
      case measure => simp [intOf]
    · have hsz := hB.size
      go_wp2
      refine bodyPost_ret (v := .agg #[.int .u8 x0, .int .u8 x1, .int .u8 x2]) (by simp [results, Try.results36, go_sem, *]) rfl ⟨rfl, ?_⟩
      repeat (first | with_reducible exact hB | with_reducible apply below_drewN | with_reducible apply Below.drew | (with_reducible refine Below.alloc ?_ (by first | (simp; done) | (simp; omega) | omega) _) | (with_reducible refine Below.setCell ?_ (by first | (simp; done) | (simp; omega) | omega) _))
end Go.Proofs.Ytgaabdidddglhaa
