import Derived.Test.YtfaiogomhjmhhaaC8
import Derived.WalkKit
import Derived.WalkSpells
import Derived.WalkLawsBesides
import Derived.Lib.Hide
import Derived.Below
import Derived.Deep.QuietTactic
import Derived.BigQuiet
import Derived.Deep.RegionHeld3
import Derived.Deep.DrawnRows
import Derived.Deep.DeepFit
import Derived.IntWalk
namespace Go.Proofs.Ytfaiogomhjmhhaa
open Go.RowKit
set_option linter.unusedVariables false
set_option linter.unusedSimpArgs false
attribute [local go_sem ↓] Go.wp_at_zero Go.wp_at_succ
attribute [local go_sem] rhoF_tmp rhoF_const rhoF_global rhoF_func

set_option maxRecDepth 50000 in
set_option maxHeartbeats 16000000 in
theorem colorRoundTrip_w (r g b a s t u d xr xg xb xa k : Int) (r0 : 0 ≤ r) (r1 : r ≤ 255) (g0 : 0 ≤ g) (g1 : g ≤ 255) (b0 : 0 ≤ b) (b1 : b ≤ 255) (a0 : 0 ≤ a) (a1 : a ≤ 255) (s0 : 0 ≤ s) (s1 : s ≤ 255) (t0 : 0 ≤ t) (t1 : t ≤ 255) (u0 : 0 ≤ u) (u1 : u ≤ 255) (d0 : 0 ≤ d) (d1 : d ≤ 255) (xr0 : 0 ≤ xr) (xr1 : xr ≤ 255) (xg0 : 0 ≤ xg) (xg1 : xg ≤ 255) (xb0 : 0 ≤ xb) (xb1 : xb ≤ 255) (xa0 : 0 ≤ xa) (xa1 : xa ≤ 255) (k0 : 0 ≤ k) (k1 : k ≤ 255) (w : World) :
    Calls Try.prog 6 #[.agg #[.int .u8 r, .int .u8 g, .int .u8 b, .int .u8 a], .agg #[.int .u8 s, .int .u8 t, .int .u8 u, .int .u8 d, .int .u8 xr, .int .u8 xg, .int .u8 xb, .int .u8 xa], .int .u8 k] w fun e w' => e = .returned (.bool true) ∧ Below w.heap.size w w' := by
  have cf := fun w => formatI_any r g b a r0 r1 g0 g1 b0 b1 a0 a1 w
  have cpa := fun w => parseF_any r g b a r0 r1 g0 g1 b0 b1 a0 a1 w
  obtain ⟨FM, hFM⟩ : ∃ z, fmtI r g b a = z := ⟨_, rfl⟩
  rw [hFM] at cf cpa
  have cp0 := fun w => premul_any r g b a r0 r1 g0 g1 b0 b1 a0 a1 w
  obtain ⟨_, _, i1, i2, i3, i4⟩ := mn8_bd r a r0 r1 a0 a1
  obtain ⟨_, _, j1, j2, j3, j4⟩ := mn8_bd g a g0 g1 a0 a1
  obtain ⟨_, _, o1, o2, o3, o4⟩ := mn8_bd b a b0 b1 a0 a1
  obtain ⟨l0, hl0⟩ : ∃ z, mn8 r a = z := ⟨_, rfl⟩
  obtain ⟨l1, hl1⟩ : ∃ z, mn8 g a = z := ⟨_, rfl⟩
  obtain ⟨l2, hl2⟩ : ∃ z, mn8 b a = z := ⟨_, rfl⟩
  rw [hl0, hl1, hl2] at cp0
  rw [hl0] at i1 i4
  rw [hl1] at j1 j4
  rw [hl2] at o1 o4
  obtain ⟨x1, y1, z1, cu1, cp1⟩ := unpre_pre l0 l1 l2 a i1 i4 j1 j4 o1 o4 a1
  obtain ⟨cs, hs⟩ : ∃ z, min s d = z := ⟨_, rfl⟩
  obtain ⟨ct, ht⟩ : ∃ z, min t d = z := ⟨_, rfl⟩
  obtain ⟨cu, hu⟩ : ∃ z, min u d = z := ⟨_, rfl⟩
  obtain ⟨cxr, hxr⟩ : ∃ z, min xr xa = z := ⟨_, rfl⟩
  obtain ⟨cxg, hxg⟩ : ∃ z, min xg xa = z := ⟨_, rfl⟩
  obtain ⟨cxb, hxb⟩ : ∃ z, min xb xa = z := ⟨_, rfl⟩
  have cc1 := fun w => pclamp_any s t u d cs ct cu hs ht hu w
  have cc2 := fun w => pclamp_any xr xg xb xa cxr cxg cxb hxr hxg hxb w
  have v1 : 0 ≤ cs ∧ cs ≤ d ∧ 0 ≤ ct ∧ ct ≤ d ∧ 0 ≤ cu ∧ cu ≤ d := by omega
  have v2 : 0 ≤ cxr ∧ cxr ≤ xa ∧ 0 ≤ cxg ∧ cxg ≤ xa ∧ 0 ≤ cxb ∧ cxb ≤ xa := by omega
  obtain ⟨e1, e2, e3, e4, e5, e6⟩ := v1
  obtain ⟨g1', g2', g3', g4', g5', g6'⟩ := v2
  obtain ⟨x2, y2, z2, cu2, cp2⟩ := unpre_pre cs ct cu d e1 e2 e3 e4 e5 e6 d1
  have csc := fun w => scale_any cs ct cu d k e1 (by omega) e3 (by omega) e5 (by omega) d0 d1 k0 k1 w
  have cv1 := fun w => valid_yes (mn8 cs k) (mn8 ct k) (mn8 cu k) (mn8 d k) (mn8_mono cs d k e2 k0) (mn8_mono ct d k e4 k0) (mn8_mono cu d k e6 k0) w
  have cle := fun w => lerp_any cs ct cu d cxr cxg cxb xa k e1 (by omega) e3 (by omega) e5 (by omega) d0 d1 g1' (by omega) g3' (by omega) g5' (by omega) xa0 xa1 k0 k1 w
  have cv2 := fun w => valid_yes (lrp cs cxr k) (lrp ct cxg k) (lrp cu cxb k) (lrp d xa k) (lrp_mono cs d cxr xa k e2 g2' k0 k1) (lrp_mono ct d cxg xa k e4 g4' k0 k1) (lrp_mono cu d cxb xa k e6 g6' k0 k1) w
  obtain ⟨m0, hm0⟩ : ∃ z, mn8 cs k = z := ⟨_, rfl⟩
  obtain ⟨m1, hm1⟩ : ∃ z, mn8 ct k = z := ⟨_, rfl⟩
  obtain ⟨m2, hm2⟩ : ∃ z, mn8 cu k = z := ⟨_, rfl⟩
  obtain ⟨m3, hm3⟩ : ∃ z, mn8 d k = z := ⟨_, rfl⟩
  obtain ⟨q0, hq0⟩ : ∃ z, lrp cs cxr k = z := ⟨_, rfl⟩
  obtain ⟨q1, hq1⟩ : ∃ z, lrp ct cxg k = z := ⟨_, rfl⟩
  obtain ⟨q2, hq2⟩ : ∃ z, lrp cu cxb k = z := ⟨_, rfl⟩
  obtain ⟨q3, hq3⟩ : ∃ z, lrp d xa k = z := ⟨_, rfl⟩
  rw [hm0, hm1, hm2, hm3] at csc cv1
  rw [hq0, hq1, hq2, hq3] at cle cv2
  clear hFM hl0 hl1 hl2 hm0 hm1 hm2 hm3 hq0 hq1 hq2 hq3 hs ht hu hxr hxg hxb e1 e2 e3 e4 e5 e6 g1' g2' g3' g4' g5' g6' i1 i2 i3 i4 j1 j2 j3 j4 o1 o2 o3 o4
  go_enter Try.func6, Try.ntmps6
  go_wp2
  refine wp_region_env (fun w' => w'.cell? ⟨w.heap.size, 0, none⟩ = some (.int .u8 r) ∧ w'.frozen? ⟨w.heap.size, 0, none⟩ = false ∧ w'.cell? ⟨w.heap.size, 1, none⟩ = some (.int .u8 g) ∧ w'.frozen? ⟨w.heap.size, 1, none⟩ = false ∧ w'.cell? ⟨w.heap.size, 2, none⟩ = some (.int .u8 b) ∧ w'.frozen? ⟨w.heap.size, 2, none⟩ = false ∧ w'.cell? ⟨w.heap.size, 3, none⟩ = some (.int .u8 a) ∧ w'.frozen? ⟨w.heap.size, 3, none⟩ = false ∧ w'.cell? ⟨w.heap.size + 1, 0, none⟩ = some (.int .u8 s) ∧ w'.frozen? ⟨w.heap.size + 1, 0, none⟩ = false ∧ w'.cell? ⟨w.heap.size + 1, 1, none⟩ = some (.int .u8 t) ∧ w'.frozen? ⟨w.heap.size + 1, 1, none⟩ = false ∧ w'.cell? ⟨w.heap.size + 1, 2, none⟩ = some (.int .u8 u) ∧ w'.frozen? ⟨w.heap.size + 1, 2, none⟩ = false ∧ w'.cell? ⟨w.heap.size + 1, 3, none⟩ = some (.int .u8 d) ∧ w'.frozen? ⟨w.heap.size + 1, 3, none⟩ = false ∧ w'.cell? ⟨w.heap.size + 1, 4, none⟩ = some (.int .u8 xr) ∧ w'.frozen? ⟨w.heap.size + 1, 4, none⟩ = false ∧ w'.cell? ⟨w.heap.size + 1, 5, none⟩ = some (.int .u8 xg) ∧ w'.frozen? ⟨w.heap.size + 1, 5, none⟩ = false ∧ w'.cell? ⟨w.heap.size + 1, 6, none⟩ = some (.int .u8 xb) ∧ w'.frozen? ⟨w.heap.size + 1, 6, none⟩ = false ∧ w'.cell? ⟨w.heap.size + 1, 7, none⟩ = some (.int .u8 xa) ∧ w'.frozen? ⟨w.heap.size + 1, 7, none⟩ = false) (fun W => W.cell? ⟨w.heap.size, 0, none⟩ = some (.int .u8 r) ∧ W.frozen? ⟨w.heap.size, 0, none⟩ = false ∧ W.cell? ⟨w.heap.size, 1, none⟩ = some (.int .u8 g) ∧ W.frozen? ⟨w.heap.size, 1, none⟩ = false ∧ W.cell? ⟨w.heap.size, 2, none⟩ = some (.int .u8 b) ∧ W.frozen? ⟨w.heap.size, 2, none⟩ = false ∧ W.cell? ⟨w.heap.size, 3, none⟩ = some (.int .u8 a) ∧ W.frozen? ⟨w.heap.size, 3, none⟩ = false ∧ W.cell? ⟨w.heap.size + 1, 0, none⟩ = some (.int .u8 s) ∧ W.frozen? ⟨w.heap.size + 1, 0, none⟩ = false ∧ W.cell? ⟨w.heap.size + 1, 1, none⟩ = some (.int .u8 t) ∧ W.frozen? ⟨w.heap.size + 1, 1, none⟩ = false ∧ W.cell? ⟨w.heap.size + 1, 2, none⟩ = some (.int .u8 u) ∧ W.frozen? ⟨w.heap.size + 1, 2, none⟩ = false ∧ W.cell? ⟨w.heap.size + 1, 3, none⟩ = some (.int .u8 d) ∧ W.frozen? ⟨w.heap.size + 1, 3, none⟩ = false ∧ W.cell? ⟨w.heap.size + 1, 4, none⟩ = some (.int .u8 xr) ∧ W.frozen? ⟨w.heap.size + 1, 4, none⟩ = false ∧ W.cell? ⟨w.heap.size + 1, 5, none⟩ = some (.int .u8 xg) ∧ W.frozen? ⟨w.heap.size + 1, 5, none⟩ = false ∧ W.cell? ⟨w.heap.size + 1, 6, none⟩ = some (.int .u8 xb) ∧ W.frozen? ⟨w.heap.size + 1, 6, none⟩ = false ∧ W.cell? ⟨w.heap.size + 1, 7, none⟩ = some (.int .u8 xa) ∧ W.frozen? ⟨w.heap.size + 1, 7, none⟩ = false ∧ Below w.heap.size w W ∧ w.heap.size + 1 + 1 ≤ W.heap.size) 8 63 [.val (.pointer (some ⟨w.heap.size + 1, 0, none⟩)), .val (.agg #[.int .u8 s, .int .u8 t, .int .u8 u, .int .u8 d]), .call 21 #[.agg #[.int .u8 s, .int .u8 t, .int .u8 u, .int .u8 d]] (.agg #[.int .u8 cs, .int .u8 ct, .int .u8 cu, .int .u8 d]), .val (.pointer (some ⟨w.heap.size + 1, 4, none⟩)), .val (.agg #[.int .u8 xr, .int .u8 xg, .int .u8 xb, .int .u8 xa]), .call 21 #[.agg #[.int .u8 xr, .int .u8 xg, .int .u8 xb, .int .u8 xa]] (.agg #[.int .u8 cxr, .int .u8 cxg, .int .u8 cxb, .int .u8 xa]), .fresh (.cells #[.int .u8 0, .int .u8 0, .int .u8 0, .int .u8 0] 24), .fresh (.cells #[.int .u8 0, .int .u8 0, .int .u8 0, .int .u8 0] 24)] (by kernel_rfl) (by kernel_rfl) rfl (by kernel_rfl) (by rintro w1 w2 ⟨h0, h1, h2, h3, h4, h5, h6, h7, h8, h9, h10, h11, h12, h13, h14, h15, h16, h17, h18, h19, h20, h21, h22, h23⟩ hb; exact ⟨bcs hb h0, bfs hb h0 h1, bcs hb h2, bfs hb h2 h3, bcs hb h4, bfs hb h4 h5, bcs hb h6, bfs hb h6 h7, bcs hb h8, bfs hb h8 h9, bcs hb h10, bfs hb h10 h11, bcs hb h12, bfs hb h12 h13, bcs hb h14, bfs hb h14 h15, bcs hb h16, bfs hb h16 h17, bcs hb h18, bfs hb h18 h19, bcs hb h20, bfs hb h20 h21, bcs hb h22, bfs hb h22 h23⟩) ⟨by first | with_reducible assumption | go_simp, by first | with_reducible assumption | go_simp, by first | with_reducible assumption | go_simp, by first | with_reducible assumption | go_simp, by first | with_reducible assumption | go_simp, by first | with_reducible assumption | go_simp, by first | with_reducible assumption | go_simp, by first | with_reducible assumption | go_simp, by first | with_reducible assumption | go_simp, by first | with_reducible assumption | go_simp, by first | with_reducible assumption | go_simp, by first | with_reducible assumption | go_simp, by first | with_reducible assumption | go_simp, by first | with_reducible assumption | go_simp, by first | with_reducible assumption | go_simp, by first | with_reducible assumption | go_simp, by first | with_reducible assumption | go_simp, by first | with_reducible assumption | go_simp, by first | with_reducible assumption | go_simp, by first | with_reducible assumption | go_simp, by first | with_reducible assumption | go_simp, by first | with_reducible assumption | go_simp, by first | with_reducible assumption | go_simp, by first | with_reducible assumption | go_simp, by repeat (first | with_reducible exact Below.refl _ _ | fail | with_reducible apply below_drewN | with_reducible apply Below.drew | (with_reducible refine Below.alloc ?_ (by first | (simp; done) | (simp; omega) | omega) _) | (with_reducible refine Below.setCell ?_ (by first | (simp; done) | (simp; omega) | omega) _)), by first | with_reducible assumption | (simp; done) | (simp; omega)⟩ ?_ ?_
  · rintro W ⟨k1_b3_0, g1_b3_0, k1_b3_1, g1_b3_1, k1_b3_2, g1_b3_2, k1_b3_3, g1_b3_3, k1_b4_0, g1_b4_0, k1_b4_1, g1_b4_1, k1_b4_2, g1_b4_2, k1_b4_3, g1_b4_3, k1_b4_4, g1_b4_4, k1_b4_5, g1_b4_5, k1_b4_6, g1_b4_6, k1_b4_7, g1_b4_7, B1, z1⟩; exact ⟨k1_b3_0, g1_b3_0, k1_b3_1, g1_b3_1, k1_b3_2, g1_b3_2, k1_b3_3, g1_b3_3, k1_b4_0, g1_b4_0, k1_b4_1, g1_b4_1, k1_b4_2, g1_b4_2, k1_b4_3, g1_b4_3, k1_b4_4, g1_b4_4, k1_b4_5, g1_b4_5, k1_b4_6, g1_b4_6, k1_b4_7, g1_b4_7⟩
  rintro w1 ⟨k1_b3_0, g1_b3_0, k1_b3_1, g1_b3_1, k1_b3_2, g1_b3_2, k1_b3_3, g1_b3_3, k1_b4_0, g1_b4_0, k1_b4_1, g1_b4_1, k1_b4_2, g1_b4_2, k1_b4_3, g1_b4_3, k1_b4_4, g1_b4_4, k1_b4_5, g1_b4_5, k1_b4_6, g1_b4_6, k1_b4_7, g1_b4_7, B1, z1⟩ gg
  simp only [List.take_succ_cons, List.take_zero, List.drop_succ_cons, List.drop_zero, List.cons_append, List.nil_append, List.append_nil]
  refine obe_val (by rfl) ?_ ?_
  · clear k1_b3_0 g1_b3_0 k1_b3_1 g1_b3_1 k1_b3_2 g1_b3_2 k1_b3_3 g1_b3_3 k1_b4_0 g1_b4_0 k1_b4_1 g1_b4_1 k1_b4_2 g1_b4_2 k1_b4_3 g1_b4_3 k1_b4_4 g1_b4_4 k1_b4_5 g1_b4_5 k1_b4_6 g1_b4_6 k1_b4_7 g1_b4_7 B1 z1; intro f hf; have u4 : f 4 = (.pointer (some ⟨w.heap.size + 1, 0, none⟩)) := (by rw [← hf]; rfl); clear hf; rintro w' ⟨h0, h1, h2, h3, h4, h5, h6, h7, h8, h9, h10, h11, h12, h13, h14, h15, h16, h17, h18, h19, h20, h21, h22, h23⟩; go_simp; try exact IntWalk.i64_in _ (by omega)
  refine obe_val (by rfl) ?_ ?_
  · clear k1_b3_0 g1_b3_0 k1_b3_1 g1_b3_1 k1_b3_2 g1_b3_2 k1_b3_3 g1_b3_3 k1_b4_0 g1_b4_0 k1_b4_1 g1_b4_1 k1_b4_2 g1_b4_2 k1_b4_3 g1_b4_3 k1_b4_4 g1_b4_4 k1_b4_5 g1_b4_5 k1_b4_6 g1_b4_6 k1_b4_7 g1_b4_7 B1 z1; intro f hf; have u12 : f 12 = (.pointer (some ⟨w.heap.size + 1, 0, none⟩)) := (by rw [← hf]; rfl); clear hf; rintro w' ⟨h0, h1, h2, h3, h4, h5, h6, h7, h8, h9, h10, h11, h12, h13, h14, h15, h16, h17, h18, h19, h20, h21, h22, h23⟩; go_simp; try exact IntWalk.i64_in _ (by omega)
  refine obe_call (by rfl) ?_ ?_ ?_
  · clear k1_b3_0 g1_b3_0 k1_b3_1 g1_b3_1 k1_b3_2 g1_b3_2 k1_b3_3 g1_b3_3 k1_b4_0 g1_b4_0 k1_b4_1 g1_b4_1 k1_b4_2 g1_b4_2 k1_b4_3 g1_b4_3 k1_b4_4 g1_b4_4 k1_b4_5 g1_b4_5 k1_b4_6 g1_b4_6 k1_b4_7 g1_b4_7 B1 z1; intro f hf; have u13 : f 13 = (.agg #[.int .u8 s, .int .u8 t, .int .u8 u, .int .u8 d]) := (by rw [← hf]; rfl); clear hf; intro w' _; simp only [execOp, resolve, invoke, rhoF_tmp, rhoF_func, rhoF_const, u13, List.map_toArray, List.map_cons, List.map_nil]; go_simp
  · clear k1_b3_0 g1_b3_0 k1_b3_1 g1_b3_1 k1_b3_2 g1_b3_2 k1_b3_3 g1_b3_3 k1_b4_0 g1_b4_0 k1_b4_1 g1_b4_1 k1_b4_2 g1_b4_2 k1_b4_3 g1_b4_3 k1_b4_4 g1_b4_4 k1_b4_5 g1_b4_5 k1_b4_6 g1_b4_6 k1_b4_7 g1_b4_7 B1 z1; rintro w' ⟨h0, h1, h2, h3, h4, h5, h6, h7, h8, h9, h10, h11, h12, h13, h14, h15, h16, h17, h18, h19, h20, h21, h22, h23⟩; exact cc1 _
  refine obe_val (by rfl) ?_ ?_
  · clear k1_b3_0 g1_b3_0 k1_b3_1 g1_b3_1 k1_b3_2 g1_b3_2 k1_b3_3 g1_b3_3 k1_b4_0 g1_b4_0 k1_b4_1 g1_b4_1 k1_b4_2 g1_b4_2 k1_b4_3 g1_b4_3 k1_b4_4 g1_b4_4 k1_b4_5 g1_b4_5 k1_b4_6 g1_b4_6 k1_b4_7 g1_b4_7 B1 z1; intro f hf; have u4 : f 4 = (.pointer (some ⟨w.heap.size + 1, 0, none⟩)) := (by rw [← hf]; rfl); clear hf; rintro w' ⟨h0, h1, h2, h3, h4, h5, h6, h7, h8, h9, h10, h11, h12, h13, h14, h15, h16, h17, h18, h19, h20, h21, h22, h23⟩; go_simp; try exact IntWalk.i64_in _ (by omega)
  refine obe_val (by rfl) ?_ ?_
  · clear k1_b3_0 g1_b3_0 k1_b3_1 g1_b3_1 k1_b3_2 g1_b3_2 k1_b3_3 g1_b3_3 k1_b4_0 g1_b4_0 k1_b4_1 g1_b4_1 k1_b4_2 g1_b4_2 k1_b4_3 g1_b4_3 k1_b4_4 g1_b4_4 k1_b4_5 g1_b4_5 k1_b4_6 g1_b4_6 k1_b4_7 g1_b4_7 B1 z1; intro f hf; have u15 : f 15 = (.pointer (some ⟨w.heap.size + 1, 4, none⟩)) := (by rw [← hf]; rfl); clear hf; rintro w' ⟨h0, h1, h2, h3, h4, h5, h6, h7, h8, h9, h10, h11, h12, h13, h14, h15, h16, h17, h18, h19, h20, h21, h22, h23⟩; go_simp; try exact IntWalk.i64_in _ (by omega)
  refine obe_call (by rfl) ?_ ?_ ?_
  · clear k1_b3_0 g1_b3_0 k1_b3_1 g1_b3_1 k1_b3_2 g1_b3_2 k1_b3_3 g1_b3_3 k1_b4_0 g1_b4_0 k1_b4_1 g1_b4_1 k1_b4_2 g1_b4_2 k1_b4_3 g1_b4_3 k1_b4_4 g1_b4_4 k1_b4_5 g1_b4_5 k1_b4_6 g1_b4_6 k1_b4_7 g1_b4_7 B1 z1; intro f hf; have u16 : f 16 = (.agg #[.int .u8 xr, .int .u8 xg, .int .u8 xb, .int .u8 xa]) := (by rw [← hf]; rfl); clear hf; intro w' _; simp only [execOp, resolve, invoke, rhoF_tmp, rhoF_func, rhoF_const, u16, List.map_toArray, List.map_cons, List.map_nil]; go_simp
  · clear k1_b3_0 g1_b3_0 k1_b3_1 g1_b3_1 k1_b3_2 g1_b3_2 k1_b3_3 g1_b3_3 k1_b4_0 g1_b4_0 k1_b4_1 g1_b4_1 k1_b4_2 g1_b4_2 k1_b4_3 g1_b4_3 k1_b4_4 g1_b4_4 k1_b4_5 g1_b4_5 k1_b4_6 g1_b4_6 k1_b4_7 g1_b4_7 B1 z1; rintro w' ⟨h0, h1, h2, h3, h4, h5, h6, h7, h8, h9, h10, h11, h12, h13, h14, h15, h16, h17, h18, h19, h20, h21, h22, h23⟩; exact cc2 _
  refine obe_fresh (by rfl) ?_ ?_
  · clear k1_b3_0 g1_b3_0 k1_b3_1 g1_b3_1 k1_b3_2 g1_b3_2 k1_b3_3 g1_b3_3 k1_b4_0 g1_b4_0 k1_b4_1 g1_b4_1 k1_b4_2 g1_b4_2 k1_b4_3 g1_b4_3 k1_b4_4 g1_b4_4 k1_b4_5 g1_b4_5 k1_b4_6 g1_b4_6 k1_b4_7 g1_b4_7 B1 z1; intro f hf; clear hf; rintro w' ⟨h0, h1, h2, h3, h4, h5, h6, h7, h8, h9, h10, h11, h12, h13, h14, h15, h16, h17, h18, h19, h20, h21, h22, h23⟩; go_simp
  refine obe_fresh (by rfl) ?_ ?_
  · clear k1_b3_0 g1_b3_0 k1_b3_1 g1_b3_1 k1_b3_2 g1_b3_2 k1_b3_3 g1_b3_3 k1_b4_0 g1_b4_0 k1_b4_1 g1_b4_1 k1_b4_2 g1_b4_2 k1_b4_3 g1_b4_3 k1_b4_4 g1_b4_4 k1_b4_5 g1_b4_5 k1_b4_6 g1_b4_6 k1_b4_7 g1_b4_7 B1 z1; intro f hf; clear hf; rintro w' ⟨h0, h1, h2, h3, h4, h5, h6, h7, h8, h9, h10, h11, h12, h13, h14, h15, h16, h17, h18, h19, h20, h21, h22, h23⟩; go_simp
  refine obe_nil ?_
  rintro w2 ⟨h0, h1, h2, h3, h4, h5, h6, h7, h8, h9, h10, h11, h12, h13, h14, h15, h16, h17, h18, h19, h20, h21, h22, h23⟩ hb2 hF
  (try simp only [List.nil_append, List.append_nil, List.cons_append] at hF)
  simp only [puts, putD, Act.put, List.setIfInBounds_toArray, List.set_cons_zero, List.set_cons_succ]
  have lg7 : w1.heap.size ≤ gg 6 := hF.1.1
  have ug7 : gg 6 < w2.heap.size := hF.1.2.1
  have pg7 : w2.heap[gg 6]? = some (.cells #[.int .u8 0, .int .u8 0, .int .u8 0, .int .u8 0] 24) := hF.1.2.2
  have ng7_g8 : ¬ gg 6 = gg 7 := hF.2.1 (7, .cells #[.int .u8 0, .int .u8 0, .int .u8 0, .int .u8 0] 24) (by simp)
  have lg8 : w1.heap.size ≤ gg 7 := hF.2.2.1.1
  have ug8 : gg 7 < w2.heap.size := hF.2.2.1.2.1
  have pg8 : w2.heap[gg 7]? = some (.cells #[.int .u8 0, .int .u8 0, .int .u8 0, .int .u8 0] 24) := hF.2.2.1.2.2
  clear hF
  obtain ⟨g7, eg7⟩ : ∃ x, gg 6 = x := ⟨_, rfl⟩
  rw [eg7] at lg7 ug7 pg7 ng7_g8 ⊢
  clear eg7
  obtain ⟨g8, eg8⟩ : ∃ x, gg 7 = x := ⟨_, rfl⟩
  rw [eg8] at lg8 ug8 pg8 ng7_g8 ⊢
  clear eg8
  clear gg
  have k2_b3_0 := bcs hb2 k1_b3_0
  have g2_b3_0 := bfs hb2 k1_b3_0 g1_b3_0
  have k2_b3_1 := bcs hb2 k1_b3_1
  have g2_b3_1 := bfs hb2 k1_b3_1 g1_b3_1
  have k2_b3_2 := bcs hb2 k1_b3_2
  have g2_b3_2 := bfs hb2 k1_b3_2 g1_b3_2
  have k2_b3_3 := bcs hb2 k1_b3_3
  have g2_b3_3 := bfs hb2 k1_b3_3 g1_b3_3
  have k2_b4_0 := bcs hb2 k1_b4_0
  have g2_b4_0 := bfs hb2 k1_b4_0 g1_b4_0
  have k2_b4_1 := bcs hb2 k1_b4_1
  have g2_b4_1 := bfs hb2 k1_b4_1 g1_b4_1
  have k2_b4_2 := bcs hb2 k1_b4_2
  have g2_b4_2 := bfs hb2 k1_b4_2 g1_b4_2
  have k2_b4_3 := bcs hb2 k1_b4_3
  have g2_b4_3 := bfs hb2 k1_b4_3 g1_b4_3
  have k2_b4_4 := bcs hb2 k1_b4_4
  have g2_b4_4 := bfs hb2 k1_b4_4 g1_b4_4
  have k2_b4_5 := bcs hb2 k1_b4_5
  have g2_b4_5 := bfs hb2 k1_b4_5 g1_b4_5
  have k2_b4_6 := bcs hb2 k1_b4_6
  have g2_b4_6 := bfs hb2 k1_b4_6 g1_b4_6
  have k2_b4_7 := bcs hb2 k1_b4_7
  have g2_b4_7 := bfs hb2 k1_b4_7 g1_b4_7
  clear h0 h1 h2 h3 h4 h5 h6 h7 h8 h9 h10 h11 h12 h13 h14 h15 h16 h17 h18 h19 h20 h21 h22 h23
  have B2 := bel_step B1 hb2
  have z2 := Nat.le_trans z1 hb2.size
  have mg7 : w.heap.size ≤ g7 := by omega
  have ng7_b3 : ¬ g7 = w.heap.size := by omega
  have nb3_g7 : ¬ w.heap.size = g7 := by omega
  have ng7_b4 : ¬ g7 = w.heap.size + 1 := by omega
  have nb4_g7 : ¬ w.heap.size + 1 = g7 := by omega
  have k2_g7_0 : w2.cell? ⟨g7, 0, none⟩ = some (.int .u8 0) := cob pg7 0 rfl
  have g2_g7_0 : w2.frozen? ⟨g7, 0, none⟩ = false := fob pg7 0
  have k2_g7_1 : w2.cell? ⟨g7, 1, none⟩ = some (.int .u8 0) := cob pg7 1 rfl
  have g2_g7_1 : w2.frozen? ⟨g7, 1, none⟩ = false := fob pg7 1
  have k2_g7_2 : w2.cell? ⟨g7, 2, none⟩ = some (.int .u8 0) := cob pg7 2 rfl
  have g2_g7_2 : w2.frozen? ⟨g7, 2, none⟩ = false := fob pg7 2
  have k2_g7_3 : w2.cell? ⟨g7, 3, none⟩ = some (.int .u8 0) := cob pg7 3 rfl
  have g2_g7_3 : w2.frozen? ⟨g7, 3, none⟩ = false := fob pg7 3
  have mg8 : w.heap.size ≤ g8 := by omega
  have ng8_b3 : ¬ g8 = w.heap.size := by omega
  have nb3_g8 : ¬ w.heap.size = g8 := by omega
  have ng8_b4 : ¬ g8 = w.heap.size + 1 := by omega
  have nb4_g8 : ¬ w.heap.size + 1 = g8 := by omega
  have k2_g8_0 : w2.cell? ⟨g8, 0, none⟩ = some (.int .u8 0) := cob pg8 0 rfl
  have g2_g8_0 : w2.frozen? ⟨g8, 0, none⟩ = false := fob pg8 0
  have k2_g8_1 : w2.cell? ⟨g8, 1, none⟩ = some (.int .u8 0) := cob pg8 1 rfl
  have g2_g8_1 : w2.frozen? ⟨g8, 1, none⟩ = false := fob pg8 1
  have k2_g8_2 : w2.cell? ⟨g8, 2, none⟩ = some (.int .u8 0) := cob pg8 2 rfl
  have g2_g8_2 : w2.frozen? ⟨g8, 2, none⟩ = false := fob pg8 2
  have k2_g8_3 : w2.cell? ⟨g8, 3, none⟩ = some (.int .u8 0) := cob pg8 3 rfl
  have g2_g8_3 : w2.frozen? ⟨g8, 3, none⟩ = false := fob pg8 3
  have ng8_g7 : ¬ g8 = g7 := fun h => ng7_g8 h.symm
  clear lg7 ug7 pg7
  clear lg8 ug8 pg8
  clear hb2
  (try clear B1)
  (try clear z1)
  (try clear k1_b3_0)
  (try clear g1_b3_0)
  (try clear k1_b3_1)
  (try clear g1_b3_1)
  (try clear k1_b3_2)
  (try clear g1_b3_2)
  (try clear k1_b3_3)
  (try clear g1_b3_3)
  (try clear k1_b4_0)
  (try clear g1_b4_0)
  (try clear k1_b4_1)
  (try clear g1_b4_1)
  (try clear k1_b4_2)
  (try clear g1_b4_2)
  (try clear k1_b4_3)
  (try clear g1_b4_3)
  (try clear k1_b4_4)
  (try clear g1_b4_4)
  (try clear k1_b4_5)
  (try clear g1_b4_5)
  (try clear k1_b4_6)
  (try clear g1_b4_6)
  (try clear k1_b4_7)
  (try clear g1_b4_7)
  (try clear q1_b3)
  (try clear x1_b3)
  (try clear y1_b3)
  (try clear q1_b4)
  (try clear x1_b4)
  (try clear y1_b4)
  have q2_b3 : w.heap.size < w2.heap.size := qlt k2_b3_0
  have x2_b3 : ¬ w.heap.size = w2.heap.size := qne k2_b3_0
  have y2_b3 : ¬ w2.heap.size = w.heap.size := fun h => qne k2_b3_0 h.symm
  have q2_b4 : w.heap.size + 1 < w2.heap.size := qlt k2_b4_0
  have x2_b4 : ¬ w.heap.size + 1 = w2.heap.size := qne k2_b4_0
  have y2_b4 : ¬ w2.heap.size = w.heap.size + 1 := fun h => qne k2_b4_0 h.symm
  have q2_g7 : g7 < w2.heap.size := qlt k2_g7_0
  have x2_g7 : ¬ g7 = w2.heap.size := qne k2_g7_0
  have y2_g7 : ¬ w2.heap.size = g7 := fun h => qne k2_g7_0 h.symm
  have q2_g8 : g8 < w2.heap.size := qlt k2_g8_0
  have x2_g8 : ¬ g8 = w2.heap.size := qne k2_g8_0
  have y2_g8 : ¬ w2.heap.size = g8 := fun h => qne k2_g8_0 h.symm
  go_wp2_with (first | (go_at_call 9; (with_reducible refine (cp0 _).mono ?_); rintro e w3 ⟨rfl, hb3⟩; have k3_b3_0 : w3.cell? ⟨w.heap.size, 0, none⟩ = some (.int .u8 r) := bcs hb3 (by go_simp); have g3_b3_0 : w3.frozen? ⟨w.heap.size, 0, none⟩ = false := bfs hb3 (v := .int .u8 r) (by go_simp) (by go_simp); have k3_b3_1 : w3.cell? ⟨w.heap.size, 1, none⟩ = some (.int .u8 g) := bcs hb3 (by go_simp); have g3_b3_1 : w3.frozen? ⟨w.heap.size, 1, none⟩ = false := bfs hb3 (v := .int .u8 g) (by go_simp) (by go_simp); have k3_b3_2 : w3.cell? ⟨w.heap.size, 2, none⟩ = some (.int .u8 b) := bcs hb3 (by go_simp); have g3_b3_2 : w3.frozen? ⟨w.heap.size, 2, none⟩ = false := bfs hb3 (v := .int .u8 b) (by go_simp) (by go_simp); have k3_b3_3 : w3.cell? ⟨w.heap.size, 3, none⟩ = some (.int .u8 a) := bcs hb3 (by go_simp); have g3_b3_3 : w3.frozen? ⟨w.heap.size, 3, none⟩ = false := bfs hb3 (v := .int .u8 a) (by go_simp) (by go_simp); have k3_b4_0 : w3.cell? ⟨w.heap.size + 1, 0, none⟩ = some (.int .u8 s) := bcs hb3 (by go_simp); have g3_b4_0 : w3.frozen? ⟨w.heap.size + 1, 0, none⟩ = false := bfs hb3 (v := .int .u8 s) (by go_simp) (by go_simp); have k3_b4_1 : w3.cell? ⟨w.heap.size + 1, 1, none⟩ = some (.int .u8 t) := bcs hb3 (by go_simp); have g3_b4_1 : w3.frozen? ⟨w.heap.size + 1, 1, none⟩ = false := bfs hb3 (v := .int .u8 t) (by go_simp) (by go_simp); have k3_b4_2 : w3.cell? ⟨w.heap.size + 1, 2, none⟩ = some (.int .u8 u) := bcs hb3 (by go_simp); have g3_b4_2 : w3.frozen? ⟨w.heap.size + 1, 2, none⟩ = false := bfs hb3 (v := .int .u8 u) (by go_simp) (by go_simp); have k3_b4_3 : w3.cell? ⟨w.heap.size + 1, 3, none⟩ = some (.int .u8 d) := bcs hb3 (by go_simp); have g3_b4_3 : w3.frozen? ⟨w.heap.size + 1, 3, none⟩ = false := bfs hb3 (v := .int .u8 d) (by go_simp) (by go_simp); have k3_b4_4 : w3.cell? ⟨w.heap.size + 1, 4, none⟩ = some (.int .u8 xr) := bcs hb3 (by go_simp); have g3_b4_4 : w3.frozen? ⟨w.heap.size + 1, 4, none⟩ = false := bfs hb3 (v := .int .u8 xr) (by go_simp) (by go_simp); have k3_b4_5 : w3.cell? ⟨w.heap.size + 1, 5, none⟩ = some (.int .u8 xg) := bcs hb3 (by go_simp); have g3_b4_5 : w3.frozen? ⟨w.heap.size + 1, 5, none⟩ = false := bfs hb3 (v := .int .u8 xg) (by go_simp) (by go_simp); have k3_b4_6 : w3.cell? ⟨w.heap.size + 1, 6, none⟩ = some (.int .u8 xb) := bcs hb3 (by go_simp); have g3_b4_6 : w3.frozen? ⟨w.heap.size + 1, 6, none⟩ = false := bfs hb3 (v := .int .u8 xb) (by go_simp) (by go_simp); have k3_b4_7 : w3.cell? ⟨w.heap.size + 1, 7, none⟩ = some (.int .u8 xa) := bcs hb3 (by go_simp); have g3_b4_7 : w3.frozen? ⟨w.heap.size + 1, 7, none⟩ = false := bfs hb3 (v := .int .u8 xa) (by go_simp) (by go_simp); have k3_g7_0 : w3.cell? ⟨g7, 0, none⟩ = some (.int .u8 cs) := bcs hb3 (by go_simp); have g3_g7_0 : w3.frozen? ⟨g7, 0, none⟩ = false := bfs hb3 (v := .int .u8 cs) (by go_simp) (by go_simp); have k3_g7_1 : w3.cell? ⟨g7, 1, none⟩ = some (.int .u8 ct) := bcs hb3 (by go_simp); have g3_g7_1 : w3.frozen? ⟨g7, 1, none⟩ = false := bfs hb3 (v := .int .u8 ct) (by go_simp) (by go_simp); have k3_g7_2 : w3.cell? ⟨g7, 2, none⟩ = some (.int .u8 cu) := bcs hb3 (by go_simp); have g3_g7_2 : w3.frozen? ⟨g7, 2, none⟩ = false := bfs hb3 (v := .int .u8 cu) (by go_simp) (by go_simp); have k3_g7_3 : w3.cell? ⟨g7, 3, none⟩ = some (.int .u8 d) := bcs hb3 (by go_simp); have g3_g7_3 : w3.frozen? ⟨g7, 3, none⟩ = false := bfs hb3 (v := .int .u8 d) (by go_simp) (by go_simp); have k3_g8_0 : w3.cell? ⟨g8, 0, none⟩ = some (.int .u8 cxr) := bcs hb3 (by go_simp); have g3_g8_0 : w3.frozen? ⟨g8, 0, none⟩ = false := bfs hb3 (v := .int .u8 cxr) (by go_simp) (by go_simp); have k3_g8_1 : w3.cell? ⟨g8, 1, none⟩ = some (.int .u8 cxg) := bcs hb3 (by go_simp); have g3_g8_1 : w3.frozen? ⟨g8, 1, none⟩ = false := bfs hb3 (v := .int .u8 cxg) (by go_simp) (by go_simp); have k3_g8_2 : w3.cell? ⟨g8, 2, none⟩ = some (.int .u8 cxb) := bcs hb3 (by go_simp); have g3_g8_2 : w3.frozen? ⟨g8, 2, none⟩ = false := bfs hb3 (v := .int .u8 cxb) (by go_simp) (by go_simp); have k3_g8_3 : w3.cell? ⟨g8, 3, none⟩ = some (.int .u8 xa) := bcs hb3 (by go_simp); have g3_g8_3 : w3.frozen? ⟨g8, 3, none⟩ = false := bfs hb3 (v := .int .u8 xa) (by go_simp) (by go_simp); have q3_b3 : w.heap.size < w3.heap.size := qlt k3_b3_0; have x3_b3 : ¬ w.heap.size = w3.heap.size := qne k3_b3_0; have y3_b3 : ¬ w3.heap.size = w.heap.size := fun h => qne k3_b3_0 h.symm; have q3_b4 : w.heap.size + 1 < w3.heap.size := qlt k3_b4_0; have x3_b4 : ¬ w.heap.size + 1 = w3.heap.size := qne k3_b4_0; have y3_b4 : ¬ w3.heap.size = w.heap.size + 1 := fun h => qne k3_b4_0 h.symm; have q3_g7 : g7 < w3.heap.size := qlt k3_g7_0; have x3_g7 : ¬ g7 = w3.heap.size := qne k3_g7_0; have y3_g7 : ¬ w3.heap.size = g7 := fun h => qne k3_g7_0 h.symm; have q3_g8 : g8 < w3.heap.size := qlt k3_g8_0; have x3_g8 : ¬ g8 = w3.heap.size := qne k3_g8_0; have y3_g8 : ¬ w3.heap.size = g8 := fun h => qne k3_g8_0 h.symm; have B3 : Below w.heap.size w w3 := bel_step (by repeat (first | with_reducible exact Below.refl _ _ | with_reducible exact B2 | with_reducible apply below_drewN | with_reducible apply Below.drew | (with_reducible refine Below.alloc ?_ (by first | (simp; done) | (simp; omega) | omega) _) | (with_reducible refine Below.setCell ?_ (by first | (simp; done) | (simp; omega) | omega) _))) hb3; have z3 : w.heap.size + 1 + 1 ≤ w3.heap.size := Nat.le_trans (by first | with_reducible assumption | (simp; done) | (simp; omega)) hb3.size; clear hb3; (try clear k2_b3_0); (try clear g2_b3_0); (try clear k2_b3_1); (try clear g2_b3_1); (try clear k2_b3_2); (try clear g2_b3_2); (try clear k2_b3_3); (try clear g2_b3_3); (try clear k2_b4_0); (try clear g2_b4_0); (try clear k2_b4_1); (try clear g2_b4_1); (try clear k2_b4_2); (try clear g2_b4_2); (try clear k2_b4_3); (try clear g2_b4_3); (try clear k2_b4_4); (try clear g2_b4_4); (try clear k2_b4_5); (try clear g2_b4_5); (try clear k2_b4_6); (try clear g2_b4_6); (try clear k2_b4_7); (try clear g2_b4_7); (try clear k2_g7_0); (try clear g2_g7_0); (try clear k2_g7_1); (try clear g2_g7_1); (try clear k2_g7_2); (try clear g2_g7_2); (try clear k2_g7_3); (try clear g2_g7_3); (try clear k2_g8_0); (try clear g2_g8_0); (try clear k2_g8_1); (try clear g2_g8_1); (try clear k2_g8_2); (try clear g2_g8_2); (try clear k2_g8_3); (try clear g2_g8_3); (try clear B2); (try clear z2); (try clear q2_b3); (try clear x2_b3); (try clear y2_b3); (try clear q2_b4); (try clear x2_b4); (try clear y2_b4); (try clear q2_g7); (try clear x2_g7); (try clear y2_g7); (try clear q2_g8); (try clear x2_g8); (try clear y2_g8)) | (go_at_call 12; (with_reducible refine (cf _).mono ?_); rintro e w4 ⟨rfl, hb4⟩; have k4_b3_0 : w4.cell? ⟨w.heap.size, 0, none⟩ = some (.int .u8 r) := bcs hb4 (by go_simp); have g4_b3_0 : w4.frozen? ⟨w.heap.size, 0, none⟩ = false := bfs hb4 (v := .int .u8 r) (by go_simp) (by go_simp); have k4_b3_1 : w4.cell? ⟨w.heap.size, 1, none⟩ = some (.int .u8 g) := bcs hb4 (by go_simp); have g4_b3_1 : w4.frozen? ⟨w.heap.size, 1, none⟩ = false := bfs hb4 (v := .int .u8 g) (by go_simp) (by go_simp); have k4_b3_2 : w4.cell? ⟨w.heap.size, 2, none⟩ = some (.int .u8 b) := bcs hb4 (by go_simp); have g4_b3_2 : w4.frozen? ⟨w.heap.size, 2, none⟩ = false := bfs hb4 (v := .int .u8 b) (by go_simp) (by go_simp); have k4_b3_3 : w4.cell? ⟨w.heap.size, 3, none⟩ = some (.int .u8 a) := bcs hb4 (by go_simp); have g4_b3_3 : w4.frozen? ⟨w.heap.size, 3, none⟩ = false := bfs hb4 (v := .int .u8 a) (by go_simp) (by go_simp); have k4_b4_0 : w4.cell? ⟨w.heap.size + 1, 0, none⟩ = some (.int .u8 s) := bcs hb4 (by go_simp); have g4_b4_0 : w4.frozen? ⟨w.heap.size + 1, 0, none⟩ = false := bfs hb4 (v := .int .u8 s) (by go_simp) (by go_simp); have k4_b4_1 : w4.cell? ⟨w.heap.size + 1, 1, none⟩ = some (.int .u8 t) := bcs hb4 (by go_simp); have g4_b4_1 : w4.frozen? ⟨w.heap.size + 1, 1, none⟩ = false := bfs hb4 (v := .int .u8 t) (by go_simp) (by go_simp); have k4_b4_2 : w4.cell? ⟨w.heap.size + 1, 2, none⟩ = some (.int .u8 u) := bcs hb4 (by go_simp); have g4_b4_2 : w4.frozen? ⟨w.heap.size + 1, 2, none⟩ = false := bfs hb4 (v := .int .u8 u) (by go_simp) (by go_simp); have k4_b4_3 : w4.cell? ⟨w.heap.size + 1, 3, none⟩ = some (.int .u8 d) := bcs hb4 (by go_simp); have g4_b4_3 : w4.frozen? ⟨w.heap.size + 1, 3, none⟩ = false := bfs hb4 (v := .int .u8 d) (by go_simp) (by go_simp); have k4_b4_4 : w4.cell? ⟨w.heap.size + 1, 4, none⟩ = some (.int .u8 xr) := bcs hb4 (by go_simp); have g4_b4_4 : w4.frozen? ⟨w.heap.size + 1, 4, none⟩ = false := bfs hb4 (v := .int .u8 xr) (by go_simp) (by go_simp); have k4_b4_5 : w4.cell? ⟨w.heap.size + 1, 5, none⟩ = some (.int .u8 xg) := bcs hb4 (by go_simp); have g4_b4_5 : w4.frozen? ⟨w.heap.size + 1, 5, none⟩ = false := bfs hb4 (v := .int .u8 xg) (by go_simp) (by go_simp); have k4_b4_6 : w4.cell? ⟨w.heap.size + 1, 6, none⟩ = some (.int .u8 xb) := bcs hb4 (by go_simp); have g4_b4_6 : w4.frozen? ⟨w.heap.size + 1, 6, none⟩ = false := bfs hb4 (v := .int .u8 xb) (by go_simp) (by go_simp); have k4_b4_7 : w4.cell? ⟨w.heap.size + 1, 7, none⟩ = some (.int .u8 xa) := bcs hb4 (by go_simp); have g4_b4_7 : w4.frozen? ⟨w.heap.size + 1, 7, none⟩ = false := bfs hb4 (v := .int .u8 xa) (by go_simp) (by go_simp); have k4_g7_0 : w4.cell? ⟨g7, 0, none⟩ = some (.int .u8 cs) := bcs hb4 (by go_simp); have g4_g7_0 : w4.frozen? ⟨g7, 0, none⟩ = false := bfs hb4 (v := .int .u8 cs) (by go_simp) (by go_simp); have k4_g7_1 : w4.cell? ⟨g7, 1, none⟩ = some (.int .u8 ct) := bcs hb4 (by go_simp); have g4_g7_1 : w4.frozen? ⟨g7, 1, none⟩ = false := bfs hb4 (v := .int .u8 ct) (by go_simp) (by go_simp); have k4_g7_2 : w4.cell? ⟨g7, 2, none⟩ = some (.int .u8 cu) := bcs hb4 (by go_simp); have g4_g7_2 : w4.frozen? ⟨g7, 2, none⟩ = false := bfs hb4 (v := .int .u8 cu) (by go_simp) (by go_simp); have k4_g7_3 : w4.cell? ⟨g7, 3, none⟩ = some (.int .u8 d) := bcs hb4 (by go_simp); have g4_g7_3 : w4.frozen? ⟨g7, 3, none⟩ = false := bfs hb4 (v := .int .u8 d) (by go_simp) (by go_simp); have k4_g8_0 : w4.cell? ⟨g8, 0, none⟩ = some (.int .u8 cxr) := bcs hb4 (by go_simp); have g4_g8_0 : w4.frozen? ⟨g8, 0, none⟩ = false := bfs hb4 (v := .int .u8 cxr) (by go_simp) (by go_simp); have k4_g8_1 : w4.cell? ⟨g8, 1, none⟩ = some (.int .u8 cxg) := bcs hb4 (by go_simp); have g4_g8_1 : w4.frozen? ⟨g8, 1, none⟩ = false := bfs hb4 (v := .int .u8 cxg) (by go_simp) (by go_simp); have k4_g8_2 : w4.cell? ⟨g8, 2, none⟩ = some (.int .u8 cxb) := bcs hb4 (by go_simp); have g4_g8_2 : w4.frozen? ⟨g8, 2, none⟩ = false := bfs hb4 (v := .int .u8 cxb) (by go_simp) (by go_simp); have k4_g8_3 : w4.cell? ⟨g8, 3, none⟩ = some (.int .u8 xa) := bcs hb4 (by go_simp); have g4_g8_3 : w4.frozen? ⟨g8, 3, none⟩ = false := bfs hb4 (v := .int .u8 xa) (by go_simp) (by go_simp); have k4_g9_0 : w4.cell? ⟨w3.heap.size, 0, none⟩ = some (.int .u8 l0) := bcs hb4 (by go_simp); have g4_g9_0 : w4.frozen? ⟨w3.heap.size, 0, none⟩ = false := bfs hb4 (v := .int .u8 l0) (by go_simp) (by go_simp); have k4_g9_1 : w4.cell? ⟨w3.heap.size, 1, none⟩ = some (.int .u8 l1) := bcs hb4 (by go_simp); have g4_g9_1 : w4.frozen? ⟨w3.heap.size, 1, none⟩ = false := bfs hb4 (v := .int .u8 l1) (by go_simp) (by go_simp); have k4_g9_2 : w4.cell? ⟨w3.heap.size, 2, none⟩ = some (.int .u8 l2) := bcs hb4 (by go_simp); have g4_g9_2 : w4.frozen? ⟨w3.heap.size, 2, none⟩ = false := bfs hb4 (v := .int .u8 l2) (by go_simp) (by go_simp); have k4_g9_3 : w4.cell? ⟨w3.heap.size, 3, none⟩ = some (.int .u8 a) := bcs hb4 (by go_simp); have g4_g9_3 : w4.frozen? ⟨w3.heap.size, 3, none⟩ = false := bfs hb4 (v := .int .u8 a) (by go_simp) (by go_simp); have q4_b3 : w.heap.size < w4.heap.size := qlt k4_b3_0; have x4_b3 : ¬ w.heap.size = w4.heap.size := qne k4_b3_0; have y4_b3 : ¬ w4.heap.size = w.heap.size := fun h => qne k4_b3_0 h.symm; have q4_b4 : w.heap.size + 1 < w4.heap.size := qlt k4_b4_0; have x4_b4 : ¬ w.heap.size + 1 = w4.heap.size := qne k4_b4_0; have y4_b4 : ¬ w4.heap.size = w.heap.size + 1 := fun h => qne k4_b4_0 h.symm; have q4_g7 : g7 < w4.heap.size := qlt k4_g7_0; have x4_g7 : ¬ g7 = w4.heap.size := qne k4_g7_0; have y4_g7 : ¬ w4.heap.size = g7 := fun h => qne k4_g7_0 h.symm; have q4_g8 : g8 < w4.heap.size := qlt k4_g8_0; have x4_g8 : ¬ g8 = w4.heap.size := qne k4_g8_0; have y4_g8 : ¬ w4.heap.size = g8 := fun h => qne k4_g8_0 h.symm; have q4_g9 : w3.heap.size < w4.heap.size := qlt k4_g9_0; have x4_g9 : ¬ w3.heap.size = w4.heap.size := qne k4_g9_0; have y4_g9 : ¬ w4.heap.size = w3.heap.size := fun h => qne k4_g9_0 h.symm; have B4 : Below w.heap.size w w4 := bel_step (by repeat (first | with_reducible exact Below.refl _ _ | with_reducible exact B3 | with_reducible apply below_drewN | with_reducible apply Below.drew | (with_reducible refine Below.alloc ?_ (by first | (simp; done) | (simp; omega) | omega) _) | (with_reducible refine Below.setCell ?_ (by first | (simp; done) | (simp; omega) | omega) _))) hb4; have z4 : w.heap.size + 1 + 1 ≤ w4.heap.size := Nat.le_trans (by first | with_reducible assumption | (simp; done) | (simp; omega)) hb4.size; clear hb4; (try clear k3_b3_0); (try clear g3_b3_0); (try clear k3_b3_1); (try clear g3_b3_1); (try clear k3_b3_2); (try clear g3_b3_2); (try clear k3_b3_3); (try clear g3_b3_3); (try clear k3_b4_0); (try clear g3_b4_0); (try clear k3_b4_1); (try clear g3_b4_1); (try clear k3_b4_2); (try clear g3_b4_2); (try clear k3_b4_3); (try clear g3_b4_3); (try clear k3_b4_4); (try clear g3_b4_4); (try clear k3_b4_5); (try clear g3_b4_5); (try clear k3_b4_6); (try clear g3_b4_6); (try clear k3_b4_7); (try clear g3_b4_7); (try clear k3_g7_0); (try clear g3_g7_0); (try clear k3_g7_1); (try clear g3_g7_1); (try clear k3_g7_2); (try clear g3_g7_2); (try clear k3_g7_3); (try clear g3_g7_3); (try clear k3_g8_0); (try clear g3_g8_0); (try clear k3_g8_1); (try clear g3_g8_1); (try clear k3_g8_2); (try clear g3_g8_2); (try clear k3_g8_3); (try clear g3_g8_3); (try clear k3_g9_0); (try clear g3_g9_0); (try clear k3_g9_1); (try clear g3_g9_1); (try clear k3_g9_2); (try clear g3_g9_2); (try clear k3_g9_3); (try clear g3_g9_3); (try clear B3); (try clear z3)) | (go_at_call 19; (with_reducible refine (cpa _).mono ?_); rintro e w5 ⟨rfl, hb5⟩; have k5_b3_0 : w5.cell? ⟨w.heap.size, 0, none⟩ = some (.int .u8 r) := bcs hb5 (by go_simp); have g5_b3_0 : w5.frozen? ⟨w.heap.size, 0, none⟩ = false := bfs hb5 (v := .int .u8 r) (by go_simp) (by go_simp); have k5_b3_1 : w5.cell? ⟨w.heap.size, 1, none⟩ = some (.int .u8 g) := bcs hb5 (by go_simp); have g5_b3_1 : w5.frozen? ⟨w.heap.size, 1, none⟩ = false := bfs hb5 (v := .int .u8 g) (by go_simp) (by go_simp); have k5_b3_2 : w5.cell? ⟨w.heap.size, 2, none⟩ = some (.int .u8 b) := bcs hb5 (by go_simp); have g5_b3_2 : w5.frozen? ⟨w.heap.size, 2, none⟩ = false := bfs hb5 (v := .int .u8 b) (by go_simp) (by go_simp); have k5_b3_3 : w5.cell? ⟨w.heap.size, 3, none⟩ = some (.int .u8 a) := bcs hb5 (by go_simp); have g5_b3_3 : w5.frozen? ⟨w.heap.size, 3, none⟩ = false := bfs hb5 (v := .int .u8 a) (by go_simp) (by go_simp); have k5_b4_0 : w5.cell? ⟨w.heap.size + 1, 0, none⟩ = some (.int .u8 s) := bcs hb5 (by go_simp); have g5_b4_0 : w5.frozen? ⟨w.heap.size + 1, 0, none⟩ = false := bfs hb5 (v := .int .u8 s) (by go_simp) (by go_simp); have k5_b4_1 : w5.cell? ⟨w.heap.size + 1, 1, none⟩ = some (.int .u8 t) := bcs hb5 (by go_simp); have g5_b4_1 : w5.frozen? ⟨w.heap.size + 1, 1, none⟩ = false := bfs hb5 (v := .int .u8 t) (by go_simp) (by go_simp); have k5_b4_2 : w5.cell? ⟨w.heap.size + 1, 2, none⟩ = some (.int .u8 u) := bcs hb5 (by go_simp); have g5_b4_2 : w5.frozen? ⟨w.heap.size + 1, 2, none⟩ = false := bfs hb5 (v := .int .u8 u) (by go_simp) (by go_simp); have k5_b4_3 : w5.cell? ⟨w.heap.size + 1, 3, none⟩ = some (.int .u8 d) := bcs hb5 (by go_simp); have g5_b4_3 : w5.frozen? ⟨w.heap.size + 1, 3, none⟩ = false := bfs hb5 (v := .int .u8 d) (by go_simp) (by go_simp); have k5_b4_4 : w5.cell? ⟨w.heap.size + 1, 4, none⟩ = some (.int .u8 xr) := bcs hb5 (by go_simp); have g5_b4_4 : w5.frozen? ⟨w.heap.size + 1, 4, none⟩ = false := bfs hb5 (v := .int .u8 xr) (by go_simp) (by go_simp); have k5_b4_5 : w5.cell? ⟨w.heap.size + 1, 5, none⟩ = some (.int .u8 xg) := bcs hb5 (by go_simp); have g5_b4_5 : w5.frozen? ⟨w.heap.size + 1, 5, none⟩ = false := bfs hb5 (v := .int .u8 xg) (by go_simp) (by go_simp); have k5_b4_6 : w5.cell? ⟨w.heap.size + 1, 6, none⟩ = some (.int .u8 xb) := bcs hb5 (by go_simp); have g5_b4_6 : w5.frozen? ⟨w.heap.size + 1, 6, none⟩ = false := bfs hb5 (v := .int .u8 xb) (by go_simp) (by go_simp); have k5_b4_7 : w5.cell? ⟨w.heap.size + 1, 7, none⟩ = some (.int .u8 xa) := bcs hb5 (by go_simp); have g5_b4_7 : w5.frozen? ⟨w.heap.size + 1, 7, none⟩ = false := bfs hb5 (v := .int .u8 xa) (by go_simp) (by go_simp); have k5_g7_0 : w5.cell? ⟨g7, 0, none⟩ = some (.int .u8 cs) := bcs hb5 (by go_simp); have g5_g7_0 : w5.frozen? ⟨g7, 0, none⟩ = false := bfs hb5 (v := .int .u8 cs) (by go_simp) (by go_simp); have k5_g7_1 : w5.cell? ⟨g7, 1, none⟩ = some (.int .u8 ct) := bcs hb5 (by go_simp); have g5_g7_1 : w5.frozen? ⟨g7, 1, none⟩ = false := bfs hb5 (v := .int .u8 ct) (by go_simp) (by go_simp); have k5_g7_2 : w5.cell? ⟨g7, 2, none⟩ = some (.int .u8 cu) := bcs hb5 (by go_simp); have g5_g7_2 : w5.frozen? ⟨g7, 2, none⟩ = false := bfs hb5 (v := .int .u8 cu) (by go_simp) (by go_simp); have k5_g7_3 : w5.cell? ⟨g7, 3, none⟩ = some (.int .u8 d) := bcs hb5 (by go_simp); have g5_g7_3 : w5.frozen? ⟨g7, 3, none⟩ = false := bfs hb5 (v := .int .u8 d) (by go_simp) (by go_simp); have k5_g8_0 : w5.cell? ⟨g8, 0, none⟩ = some (.int .u8 cxr) := bcs hb5 (by go_simp); have g5_g8_0 : w5.frozen? ⟨g8, 0, none⟩ = false := bfs hb5 (v := .int .u8 cxr) (by go_simp) (by go_simp); have k5_g8_1 : w5.cell? ⟨g8, 1, none⟩ = some (.int .u8 cxg) := bcs hb5 (by go_simp); have g5_g8_1 : w5.frozen? ⟨g8, 1, none⟩ = false := bfs hb5 (v := .int .u8 cxg) (by go_simp) (by go_simp); have k5_g8_2 : w5.cell? ⟨g8, 2, none⟩ = some (.int .u8 cxb) := bcs hb5 (by go_simp); have g5_g8_2 : w5.frozen? ⟨g8, 2, none⟩ = false := bfs hb5 (v := .int .u8 cxb) (by go_simp) (by go_simp); have k5_g8_3 : w5.cell? ⟨g8, 3, none⟩ = some (.int .u8 xa) := bcs hb5 (by go_simp); have g5_g8_3 : w5.frozen? ⟨g8, 3, none⟩ = false := bfs hb5 (v := .int .u8 xa) (by go_simp) (by go_simp); have k5_g9_0 : w5.cell? ⟨w3.heap.size, 0, none⟩ = some (.int .u8 l0) := bcs hb5 (by go_simp); have g5_g9_0 : w5.frozen? ⟨w3.heap.size, 0, none⟩ = false := bfs hb5 (v := .int .u8 l0) (by go_simp) (by go_simp); have k5_g9_1 : w5.cell? ⟨w3.heap.size, 1, none⟩ = some (.int .u8 l1) := bcs hb5 (by go_simp); have g5_g9_1 : w5.frozen? ⟨w3.heap.size, 1, none⟩ = false := bfs hb5 (v := .int .u8 l1) (by go_simp) (by go_simp); have k5_g9_2 : w5.cell? ⟨w3.heap.size, 2, none⟩ = some (.int .u8 l2) := bcs hb5 (by go_simp); have g5_g9_2 : w5.frozen? ⟨w3.heap.size, 2, none⟩ = false := bfs hb5 (v := .int .u8 l2) (by go_simp) (by go_simp); have k5_g9_3 : w5.cell? ⟨w3.heap.size, 3, none⟩ = some (.int .u8 a) := bcs hb5 (by go_simp); have g5_g9_3 : w5.frozen? ⟨w3.heap.size, 3, none⟩ = false := bfs hb5 (v := .int .u8 a) (by go_simp) (by go_simp); have q5_b3 : w.heap.size < w5.heap.size := qlt k5_b3_0; have x5_b3 : ¬ w.heap.size = w5.heap.size := qne k5_b3_0; have y5_b3 : ¬ w5.heap.size = w.heap.size := fun h => qne k5_b3_0 h.symm; have q5_b4 : w.heap.size + 1 < w5.heap.size := qlt k5_b4_0; have x5_b4 : ¬ w.heap.size + 1 = w5.heap.size := qne k5_b4_0; have y5_b4 : ¬ w5.heap.size = w.heap.size + 1 := fun h => qne k5_b4_0 h.symm; have q5_g7 : g7 < w5.heap.size := qlt k5_g7_0; have x5_g7 : ¬ g7 = w5.heap.size := qne k5_g7_0; have y5_g7 : ¬ w5.heap.size = g7 := fun h => qne k5_g7_0 h.symm; have q5_g8 : g8 < w5.heap.size := qlt k5_g8_0; have x5_g8 : ¬ g8 = w5.heap.size := qne k5_g8_0; have y5_g8 : ¬ w5.heap.size = g8 := fun h => qne k5_g8_0 h.symm; have q5_g9 : w3.heap.size < w5.heap.size := qlt k5_g9_0; have x5_g9 : ¬ w3.heap.size = w5.heap.size := qne k5_g9_0; have y5_g9 : ¬ w5.heap.size = w3.heap.size := fun h => qne k5_g9_0 h.symm; have B5 : Below w.heap.size w w5 := bel_step (by repeat (first | with_reducible exact Below.refl _ _ | with_reducible exact B4 | with_reducible apply below_drewN | with_reducible apply Below.drew | (with_reducible refine Below.alloc ?_ (by first | (simp; done) | (simp; omega) | omega) _) | (with_reducible refine Below.setCell ?_ (by first | (simp; done) | (simp; omega) | omega) _))) hb5; have z5 : w.heap.size + 1 + 1 ≤ w5.heap.size := Nat.le_trans (by first | with_reducible assumption | (simp; done) | (simp; omega)) hb5.size; clear hb5; (try clear k4_b3_0); (try clear g4_b3_0); (try clear k4_b3_1); (try clear g4_b3_1); (try clear k4_b3_2); (try clear g4_b3_2); (try clear k4_b3_3); (try clear g4_b3_3); (try clear k4_b4_0); (try clear g4_b4_0); (try clear k4_b4_1); (try clear g4_b4_1); (try clear k4_b4_2); (try clear g4_b4_2); (try clear k4_b4_3); (try clear g4_b4_3); (try clear k4_b4_4); (try clear g4_b4_4); (try clear k4_b4_5); (try clear g4_b4_5); (try clear k4_b4_6); (try clear g4_b4_6); (try clear k4_b4_7); (try clear g4_b4_7); (try clear k4_g7_0); (try clear g4_g7_0); (try clear k4_g7_1); (try clear g4_g7_1); (try clear k4_g7_2); (try clear g4_g7_2); (try clear k4_g7_3); (try clear g4_g7_3); (try clear k4_g8_0); (try clear g4_g8_0); (try clear k4_g8_1); (try clear g4_g8_1); (try clear k4_g8_2); (try clear g4_g8_2); (try clear k4_g8_3); (try clear g4_g8_3); (try clear k4_g9_0); (try clear g4_g9_0); (try clear k4_g9_1); (try clear g4_g9_1); (try clear k4_g9_2); (try clear g4_g9_2); (try clear k4_g9_3); (try clear g4_g9_3); (try clear B4); (try clear z4); (try clear q4_b3); (try clear x4_b3); (try clear y4_b3); (try clear q4_b4); (try clear x4_b4); (try clear y4_b4); (try clear q4_g7); (try clear x4_g7); (try clear y4_g7); (try clear q4_g8); (try clear x4_g8); (try clear y4_g8); (try clear q4_g9); (try clear x4_g9); (try clear y4_g9)))
  refine wp_region_env (fun w' => w'.cell? ⟨w.heap.size, 0, none⟩ = some (.int .u8 r) ∧ w'.frozen? ⟨w.heap.size, 0, none⟩ = false ∧ w'.cell? ⟨w.heap.size, 1, none⟩ = some (.int .u8 g) ∧ w'.frozen? ⟨w.heap.size, 1, none⟩ = false ∧ w'.cell? ⟨w.heap.size, 2, none⟩ = some (.int .u8 b) ∧ w'.frozen? ⟨w.heap.size, 2, none⟩ = false ∧ w'.cell? ⟨w.heap.size, 3, none⟩ = some (.int .u8 a) ∧ w'.frozen? ⟨w.heap.size, 3, none⟩ = false ∧ w'.cell? ⟨w.heap.size + 1, 0, none⟩ = some (.int .u8 s) ∧ w'.frozen? ⟨w.heap.size + 1, 0, none⟩ = false ∧ w'.cell? ⟨w.heap.size + 1, 1, none⟩ = some (.int .u8 t) ∧ w'.frozen? ⟨w.heap.size + 1, 1, none⟩ = false ∧ w'.cell? ⟨w.heap.size + 1, 2, none⟩ = some (.int .u8 u) ∧ w'.frozen? ⟨w.heap.size + 1, 2, none⟩ = false ∧ w'.cell? ⟨w.heap.size + 1, 3, none⟩ = some (.int .u8 d) ∧ w'.frozen? ⟨w.heap.size + 1, 3, none⟩ = false ∧ w'.cell? ⟨w.heap.size + 1, 4, none⟩ = some (.int .u8 xr) ∧ w'.frozen? ⟨w.heap.size + 1, 4, none⟩ = false ∧ w'.cell? ⟨w.heap.size + 1, 5, none⟩ = some (.int .u8 xg) ∧ w'.frozen? ⟨w.heap.size + 1, 5, none⟩ = false ∧ w'.cell? ⟨w.heap.size + 1, 6, none⟩ = some (.int .u8 xb) ∧ w'.frozen? ⟨w.heap.size + 1, 6, none⟩ = false ∧ w'.cell? ⟨w.heap.size + 1, 7, none⟩ = some (.int .u8 xa) ∧ w'.frozen? ⟨w.heap.size + 1, 7, none⟩ = false ∧ w'.cell? ⟨g7, 0, none⟩ = some (.int .u8 cs) ∧ w'.frozen? ⟨g7, 0, none⟩ = false ∧ w'.cell? ⟨g7, 1, none⟩ = some (.int .u8 ct) ∧ w'.frozen? ⟨g7, 1, none⟩ = false ∧ w'.cell? ⟨g7, 2, none⟩ = some (.int .u8 cu) ∧ w'.frozen? ⟨g7, 2, none⟩ = false ∧ w'.cell? ⟨g7, 3, none⟩ = some (.int .u8 d) ∧ w'.frozen? ⟨g7, 3, none⟩ = false ∧ w'.cell? ⟨g8, 0, none⟩ = some (.int .u8 cxr) ∧ w'.frozen? ⟨g8, 0, none⟩ = false ∧ w'.cell? ⟨g8, 1, none⟩ = some (.int .u8 cxg) ∧ w'.frozen? ⟨g8, 1, none⟩ = false ∧ w'.cell? ⟨g8, 2, none⟩ = some (.int .u8 cxb) ∧ w'.frozen? ⟨g8, 2, none⟩ = false ∧ w'.cell? ⟨g8, 3, none⟩ = some (.int .u8 xa) ∧ w'.frozen? ⟨g8, 3, none⟩ = false ∧ w'.cell? ⟨w3.heap.size, 0, none⟩ = some (.int .u8 l0) ∧ w'.frozen? ⟨w3.heap.size, 0, none⟩ = false ∧ w'.cell? ⟨w3.heap.size, 1, none⟩ = some (.int .u8 l1) ∧ w'.frozen? ⟨w3.heap.size, 1, none⟩ = false ∧ w'.cell? ⟨w3.heap.size, 2, none⟩ = some (.int .u8 l2) ∧ w'.frozen? ⟨w3.heap.size, 2, none⟩ = false ∧ w'.cell? ⟨w3.heap.size, 3, none⟩ = some (.int .u8 a) ∧ w'.frozen? ⟨w3.heap.size, 3, none⟩ = false ∧ w'.cell? ⟨w5.heap.size, 0, none⟩ = some (.int .u8 r) ∧ w'.frozen? ⟨w5.heap.size, 0, none⟩ = false ∧ w'.cell? ⟨w5.heap.size, 1, none⟩ = some (.int .u8 g) ∧ w'.frozen? ⟨w5.heap.size, 1, none⟩ = false ∧ w'.cell? ⟨w5.heap.size, 2, none⟩ = some (.int .u8 b) ∧ w'.frozen? ⟨w5.heap.size, 2, none⟩ = false ∧ w'.cell? ⟨w5.heap.size, 3, none⟩ = some (.int .u8 a) ∧ w'.frozen? ⟨w5.heap.size, 3, none⟩ = false) (fun W => W.cell? ⟨w.heap.size, 0, none⟩ = some (.int .u8 r) ∧ W.frozen? ⟨w.heap.size, 0, none⟩ = false ∧ W.cell? ⟨w.heap.size, 1, none⟩ = some (.int .u8 g) ∧ W.frozen? ⟨w.heap.size, 1, none⟩ = false ∧ W.cell? ⟨w.heap.size, 2, none⟩ = some (.int .u8 b) ∧ W.frozen? ⟨w.heap.size, 2, none⟩ = false ∧ W.cell? ⟨w.heap.size, 3, none⟩ = some (.int .u8 a) ∧ W.frozen? ⟨w.heap.size, 3, none⟩ = false ∧ W.cell? ⟨w.heap.size + 1, 0, none⟩ = some (.int .u8 s) ∧ W.frozen? ⟨w.heap.size + 1, 0, none⟩ = false ∧ W.cell? ⟨w.heap.size + 1, 1, none⟩ = some (.int .u8 t) ∧ W.frozen? ⟨w.heap.size + 1, 1, none⟩ = false ∧ W.cell? ⟨w.heap.size + 1, 2, none⟩ = some (.int .u8 u) ∧ W.frozen? ⟨w.heap.size + 1, 2, none⟩ = false ∧ W.cell? ⟨w.heap.size + 1, 3, none⟩ = some (.int .u8 d) ∧ W.frozen? ⟨w.heap.size + 1, 3, none⟩ = false ∧ W.cell? ⟨w.heap.size + 1, 4, none⟩ = some (.int .u8 xr) ∧ W.frozen? ⟨w.heap.size + 1, 4, none⟩ = false ∧ W.cell? ⟨w.heap.size + 1, 5, none⟩ = some (.int .u8 xg) ∧ W.frozen? ⟨w.heap.size + 1, 5, none⟩ = false ∧ W.cell? ⟨w.heap.size + 1, 6, none⟩ = some (.int .u8 xb) ∧ W.frozen? ⟨w.heap.size + 1, 6, none⟩ = false ∧ W.cell? ⟨w.heap.size + 1, 7, none⟩ = some (.int .u8 xa) ∧ W.frozen? ⟨w.heap.size + 1, 7, none⟩ = false ∧ W.cell? ⟨g7, 0, none⟩ = some (.int .u8 cs) ∧ W.frozen? ⟨g7, 0, none⟩ = false ∧ W.cell? ⟨g7, 1, none⟩ = some (.int .u8 ct) ∧ W.frozen? ⟨g7, 1, none⟩ = false ∧ W.cell? ⟨g7, 2, none⟩ = some (.int .u8 cu) ∧ W.frozen? ⟨g7, 2, none⟩ = false ∧ W.cell? ⟨g7, 3, none⟩ = some (.int .u8 d) ∧ W.frozen? ⟨g7, 3, none⟩ = false ∧ W.cell? ⟨g8, 0, none⟩ = some (.int .u8 cxr) ∧ W.frozen? ⟨g8, 0, none⟩ = false ∧ W.cell? ⟨g8, 1, none⟩ = some (.int .u8 cxg) ∧ W.frozen? ⟨g8, 1, none⟩ = false ∧ W.cell? ⟨g8, 2, none⟩ = some (.int .u8 cxb) ∧ W.frozen? ⟨g8, 2, none⟩ = false ∧ W.cell? ⟨g8, 3, none⟩ = some (.int .u8 xa) ∧ W.frozen? ⟨g8, 3, none⟩ = false ∧ W.cell? ⟨w3.heap.size, 0, none⟩ = some (.int .u8 l0) ∧ W.frozen? ⟨w3.heap.size, 0, none⟩ = false ∧ W.cell? ⟨w3.heap.size, 1, none⟩ = some (.int .u8 l1) ∧ W.frozen? ⟨w3.heap.size, 1, none⟩ = false ∧ W.cell? ⟨w3.heap.size, 2, none⟩ = some (.int .u8 l2) ∧ W.frozen? ⟨w3.heap.size, 2, none⟩ = false ∧ W.cell? ⟨w3.heap.size, 3, none⟩ = some (.int .u8 a) ∧ W.frozen? ⟨w3.heap.size, 3, none⟩ = false ∧ W.cell? ⟨w5.heap.size, 0, none⟩ = some (.int .u8 r) ∧ W.frozen? ⟨w5.heap.size, 0, none⟩ = false ∧ W.cell? ⟨w5.heap.size, 1, none⟩ = some (.int .u8 g) ∧ W.frozen? ⟨w5.heap.size, 1, none⟩ = false ∧ W.cell? ⟨w5.heap.size, 2, none⟩ = some (.int .u8 b) ∧ W.frozen? ⟨w5.heap.size, 2, none⟩ = false ∧ W.cell? ⟨w5.heap.size, 3, none⟩ = some (.int .u8 a) ∧ W.frozen? ⟨w5.heap.size, 3, none⟩ = false ∧ Below w.heap.size w W ∧ w.heap.size + 1 + 1 ≤ W.heap.size) 38 63 [.val (.agg #[.int .u8 l0, .int .u8 l1, .int .u8 l2, .int .u8 a]), .call 22 #[.agg #[.int .u8 l0, .int .u8 l1, .int .u8 l2, .int .u8 a]] (.agg #[.int .u8 x1, .int .u8 y1, .int .u8 z1, .int .u8 a]), .call 9 #[.agg #[.int .u8 x1, .int .u8 y1, .int .u8 z1, .int .u8 a]] (.agg #[.int .u8 l0, .int .u8 l1, .int .u8 l2, .int .u8 a]), .val (.agg #[.int .u8 l0, .int .u8 l1, .int .u8 l2, .int .u8 a]), .val (.bool true), .val (.bool true), .val (.agg #[.int .u8 r, .int .u8 g, .int .u8 b, .int .u8 a]), .val (.agg #[.int .u8 r, .int .u8 g, .int .u8 b, .int .u8 a]), .val (.bool true), .val (.bool true), .val (.bool true), .val (.int .i64 0), .val (.bool true), .val (.bool true), .val (.bool true), .val (.agg #[.int .u8 cs, .int .u8 ct, .int .u8 cu, .int .u8 d]), .val (.int .u8 k), .call 15 #[.agg #[.int .u8 cs, .int .u8 ct, .int .u8 cu, .int .u8 d], .int .u8 k] (.agg #[.int .u8 m0, .int .u8 m1, .int .u8 m2, .int .u8 m3]), .call 11 #[.agg #[.int .u8 m0, .int .u8 m1, .int .u8 m2, .int .u8 m3]] (.bool true), .val (.bool true), .val (.bool true), .val (.agg #[.int .u8 cs, .int .u8 ct, .int .u8 cu, .int .u8 d]), .val (.agg #[.int .u8 cxr, .int .u8 cxg, .int .u8 cxb, .int .u8 xa]), .val (.int .u8 k), .call 17 #[.agg #[.int .u8 cs, .int .u8 ct, .int .u8 cu, .int .u8 d], .agg #[.int .u8 cxr, .int .u8 cxg, .int .u8 cxb, .int .u8 xa], .int .u8 k] (.agg #[.int .u8 q0, .int .u8 q1, .int .u8 q2, .int .u8 q3]), .call 11 #[.agg #[.int .u8 q0, .int .u8 q1, .int .u8 q2, .int .u8 q3]] (.bool true), .val (.bool true), .val (.bool true), .val (.agg #[.int .u8 cs, .int .u8 ct, .int .u8 cu, .int .u8 d]), .call 22 #[.agg #[.int .u8 cs, .int .u8 ct, .int .u8 cu, .int .u8 d]] (.agg #[.int .u8 x2, .int .u8 y2, .int .u8 z2, .int .u8 d]), .call 9 #[.agg #[.int .u8 x2, .int .u8 y2, .int .u8 z2, .int .u8 d]] (.agg #[.int .u8 cs, .int .u8 ct, .int .u8 cu, .int .u8 d]), .val (.agg #[.int .u8 cs, .int .u8 ct, .int .u8 cu, .int .u8 d]), .val (.bool true), .val (.bool true), .val (.bool true), .call 14 #[] (.bool true), .val (.bool true), .val (.bool true)] (by kernel_rfl) (by kernel_rfl) rfl (by kernel_rfl) (by rintro w1 w2 ⟨h0, h1, h2, h3, h4, h5, h6, h7, h8, h9, h10, h11, h12, h13, h14, h15, h16, h17, h18, h19, h20, h21, h22, h23, h24, h25, h26, h27, h28, h29, h30, h31, h32, h33, h34, h35, h36, h37, h38, h39, h40, h41, h42, h43, h44, h45, h46, h47, h48, h49, h50, h51, h52, h53, h54, h55⟩ hb; exact ⟨bcs hb h0, bfs hb h0 h1, bcs hb h2, bfs hb h2 h3, bcs hb h4, bfs hb h4 h5, bcs hb h6, bfs hb h6 h7, bcs hb h8, bfs hb h8 h9, bcs hb h10, bfs hb h10 h11, bcs hb h12, bfs hb h12 h13, bcs hb h14, bfs hb h14 h15, bcs hb h16, bfs hb h16 h17, bcs hb h18, bfs hb h18 h19, bcs hb h20, bfs hb h20 h21, bcs hb h22, bfs hb h22 h23, bcs hb h24, bfs hb h24 h25, bcs hb h26, bfs hb h26 h27, bcs hb h28, bfs hb h28 h29, bcs hb h30, bfs hb h30 h31, bcs hb h32, bfs hb h32 h33, bcs hb h34, bfs hb h34 h35, bcs hb h36, bfs hb h36 h37, bcs hb h38, bfs hb h38 h39, bcs hb h40, bfs hb h40 h41, bcs hb h42, bfs hb h42 h43, bcs hb h44, bfs hb h44 h45, bcs hb h46, bfs hb h46 h47, bcs hb h48, bfs hb h48 h49, bcs hb h50, bfs hb h50 h51, bcs hb h52, bfs hb h52 h53, bcs hb h54, bfs hb h54 h55⟩) ⟨by first | with_reducible assumption | go_simp, by first | with_reducible assumption | go_simp, by first | with_reducible assumption | go_simp, by first | with_reducible assumption | go_simp, by first | with_reducible assumption | go_simp, by first | with_reducible assumption | go_simp, by first | with_reducible assumption | go_simp, by first | with_reducible assumption | go_simp, by first | with_reducible assumption | go_simp, by first | with_reducible assumption | go_simp, by first | with_reducible assumption | go_simp, by first | with_reducible assumption | go_simp, by first | with_reducible assumption | go_simp, by first | with_reducible assumption | go_simp, by first | with_reducible assumption | go_simp, by first | with_reducible assumption | go_simp, by first | with_reducible assumption | go_simp, by first | with_reducible assumption | go_simp, by first | with_reducible assumption | go_simp, by first | with_reducible assumption | go_simp, by first | with_reducible assumption | go_simp, by first | with_reducible assumption | go_simp, by first | with_reducible assumption | go_simp, by first | with_reducible assumption | go_simp, by first | with_reducible assumption | go_simp, by first | with_reducible assumption | go_simp, by first | with_reducible assumption | go_simp, by first | with_reducible assumption | go_simp, by first | with_reducible assumption | go_simp, by first | with_reducible assumption | go_simp, by first | with_reducible assumption | go_simp, by first | with_reducible assumption | go_simp, by first | with_reducible assumption | go_simp, by first | with_reducible assumption | go_simp, by first | with_reducible assumption | go_simp, by first | with_reducible assumption | go_simp, by first | with_reducible assumption | go_simp, by first | with_reducible assumption | go_simp, by first | with_reducible assumption | go_simp, by first | with_reducible assumption | go_simp, by first | with_reducible assumption | go_simp, by first | with_reducible assumption | go_simp, by first | with_reducible assumption | go_simp, by first | with_reducible assumption | go_simp, by first | with_reducible assumption | go_simp, by first | with_reducible assumption | go_simp, by first | with_reducible assumption | go_simp, by first | with_reducible assumption | go_simp, by first | with_reducible assumption | go_simp, by first | with_reducible assumption | go_simp, by first | with_reducible assumption | go_simp, by first | with_reducible assumption | go_simp, by first | with_reducible assumption | go_simp, by first | with_reducible assumption | go_simp, by first | with_reducible assumption | go_simp, by first | with_reducible assumption | go_simp, by repeat (first | with_reducible exact Below.refl _ _ | with_reducible exact B5 | with_reducible apply below_drewN | with_reducible apply Below.drew | (with_reducible refine Below.alloc ?_ (by first | (simp; done) | (simp; omega) | omega) _) | (with_reducible refine Below.setCell ?_ (by first | (simp; done) | (simp; omega) | omega) _)), by first | with_reducible assumption | (simp; done) | (simp; omega)⟩ ?_ ?_
  · rintro W ⟨k6_b3_0, g6_b3_0, k6_b3_1, g6_b3_1, k6_b3_2, g6_b3_2, k6_b3_3, g6_b3_3, k6_b4_0, g6_b4_0, k6_b4_1, g6_b4_1, k6_b4_2, g6_b4_2, k6_b4_3, g6_b4_3, k6_b4_4, g6_b4_4, k6_b4_5, g6_b4_5, k6_b4_6, g6_b4_6, k6_b4_7, g6_b4_7, k6_g7_0, g6_g7_0, k6_g7_1, g6_g7_1, k6_g7_2, g6_g7_2, k6_g7_3, g6_g7_3, k6_g8_0, g6_g8_0, k6_g8_1, g6_g8_1, k6_g8_2, g6_g8_2, k6_g8_3, g6_g8_3, k6_g9_0, g6_g9_0, k6_g9_1, g6_g9_1, k6_g9_2, g6_g9_2, k6_g9_3, g6_g9_3, k6_g10_0, g6_g10_0, k6_g10_1, g6_g10_1, k6_g10_2, g6_g10_2, k6_g10_3, g6_g10_3, B6, z6⟩; exact ⟨k6_b3_0, g6_b3_0, k6_b3_1, g6_b3_1, k6_b3_2, g6_b3_2, k6_b3_3, g6_b3_3, k6_b4_0, g6_b4_0, k6_b4_1, g6_b4_1, k6_b4_2, g6_b4_2, k6_b4_3, g6_b4_3, k6_b4_4, g6_b4_4, k6_b4_5, g6_b4_5, k6_b4_6, g6_b4_6, k6_b4_7, g6_b4_7, k6_g7_0, g6_g7_0, k6_g7_1, g6_g7_1, k6_g7_2, g6_g7_2, k6_g7_3, g6_g7_3, k6_g8_0, g6_g8_0, k6_g8_1, g6_g8_1, k6_g8_2, g6_g8_2, k6_g8_3, g6_g8_3, k6_g9_0, g6_g9_0, k6_g9_1, g6_g9_1, k6_g9_2, g6_g9_2, k6_g9_3, g6_g9_3, k6_g10_0, g6_g10_0, k6_g10_1, g6_g10_1, k6_g10_2, g6_g10_2, k6_g10_3, g6_g10_3⟩
  (try clear B5)
  (try clear z5)
  (try clear k5_b3_0)
  (try clear g5_b3_0)
  (try clear k5_b3_1)
  (try clear g5_b3_1)
  (try clear k5_b3_2)
  (try clear g5_b3_2)
  (try clear k5_b3_3)
  (try clear g5_b3_3)
  (try clear k5_b4_0)
  (try clear g5_b4_0)
  (try clear k5_b4_1)
  (try clear g5_b4_1)
  (try clear k5_b4_2)
  (try clear g5_b4_2)
  (try clear k5_b4_3)
  (try clear g5_b4_3)
  (try clear k5_b4_4)
  (try clear g5_b4_4)
  (try clear k5_b4_5)
  (try clear g5_b4_5)
  (try clear k5_b4_6)
  (try clear g5_b4_6)
  (try clear k5_b4_7)
  (try clear g5_b4_7)
  (try clear k5_g7_0)
  (try clear g5_g7_0)
  (try clear k5_g7_1)
  (try clear g5_g7_1)
  (try clear k5_g7_2)
  (try clear g5_g7_2)
  (try clear k5_g7_3)
  (try clear g5_g7_3)
  (try clear k5_g8_0)
  (try clear g5_g8_0)
  (try clear k5_g8_1)
  (try clear g5_g8_1)
  (try clear k5_g8_2)
  (try clear g5_g8_2)
  (try clear k5_g8_3)
  (try clear g5_g8_3)
  (try clear k5_g9_0)
  (try clear g5_g9_0)
  (try clear k5_g9_1)
  (try clear g5_g9_1)
  (try clear k5_g9_2)
  (try clear g5_g9_2)
  (try clear k5_g9_3)
  (try clear g5_g9_3)
  (try clear k5_g10_0)
  (try clear g5_g10_0)
  (try clear k5_g10_1)
  (try clear g5_g10_1)
  (try clear k5_g10_2)
  (try clear g5_g10_2)
  (try clear k5_g10_3)
  (try clear g5_g10_3)
  (try clear q5_b3)
  (try clear x5_b3)
  (try clear y5_b3)
  (try clear q5_b4)
  (try clear x5_b4)
  (try clear y5_b4)
  (try clear q5_g7)
  (try clear x5_g7)
  (try clear y5_g7)
  (try clear q5_g8)
  (try clear x5_g8)
  (try clear y5_g8)
  (try clear q5_g9)
  (try clear x5_g9)
  (try clear y5_g9)
  (try clear q5_g10)
  (try clear x5_g10)
  (try clear y5_g10)
  rintro w6 ⟨k6_b3_0, g6_b3_0, k6_b3_1, g6_b3_1, k6_b3_2, g6_b3_2, k6_b3_3, g6_b3_3, k6_b4_0, g6_b4_0, k6_b4_1, g6_b4_1, k6_b4_2, g6_b4_2, k6_b4_3, g6_b4_3, k6_b4_4, g6_b4_4, k6_b4_5, g6_b4_5, k6_b4_6, g6_b4_6, k6_b4_7, g6_b4_7, k6_g7_0, g6_g7_0, k6_g7_1, g6_g7_1, k6_g7_2, g6_g7_2, k6_g7_3, g6_g7_3, k6_g8_0, g6_g8_0, k6_g8_1, g6_g8_1, k6_g8_2, g6_g8_2, k6_g8_3, g6_g8_3, k6_g9_0, g6_g9_0, k6_g9_1, g6_g9_1, k6_g9_2, g6_g9_2, k6_g9_3, g6_g9_3, k6_g10_0, g6_g10_0, k6_g10_1, g6_g10_1, k6_g10_2, g6_g10_2, k6_g10_3, g6_g10_3, B6, z6⟩ gg
  simp only [List.take_succ_cons, List.take_zero, List.drop_succ_cons, List.drop_zero, List.cons_append, List.nil_append, List.append_nil]
  refine obe_val (by rfl) ?_ ?_
  · clear k6_b3_0 g6_b3_0 k6_b3_1 g6_b3_1 k6_b3_2 g6_b3_2 k6_b3_3 g6_b3_3 k6_b4_0 g6_b4_0 k6_b4_1 g6_b4_1 k6_b4_2 g6_b4_2 k6_b4_3 g6_b4_3 k6_b4_4 g6_b4_4 k6_b4_5 g6_b4_5 k6_b4_6 g6_b4_6 k6_b4_7 g6_b4_7 k6_g7_0 g6_g7_0 k6_g7_1 g6_g7_1 k6_g7_2 g6_g7_2 k6_g7_3 g6_g7_3 k6_g8_0 g6_g8_0 k6_g8_1 g6_g8_1 k6_g8_2 g6_g8_2 k6_g8_3 g6_g8_3 k6_g9_0 g6_g9_0 k6_g9_1 g6_g9_1 k6_g9_2 g6_g9_2 k6_g9_3 g6_g9_3 k6_g10_0 g6_g10_0 k6_g10_1 g6_g10_1 k6_g10_2 g6_g10_2 k6_g10_3 g6_g10_3 B6 z6; intro f hf; have u9 : f 9 = (.pointer (some ⟨w3.heap.size, 0, none⟩)) := (by rw [← hf]; rfl); clear hf; rintro w' ⟨h0, h1, h2, h3, h4, h5, h6, h7, h8, h9, h10, h11, h12, h13, h14, h15, h16, h17, h18, h19, h20, h21, h22, h23, h24, h25, h26, h27, h28, h29, h30, h31, h32, h33, h34, h35, h36, h37, h38, h39, h40, h41, h42, h43, h44, h45, h46, h47, h48, h49, h50, h51, h52, h53, h54, h55⟩; go_simp; try exact IntWalk.i64_in _ (by omega)
  refine obe_call (by rfl) ?_ ?_ ?_
  · clear k6_b3_0 g6_b3_0 k6_b3_1 g6_b3_1 k6_b3_2 g6_b3_2 k6_b3_3 g6_b3_3 k6_b4_0 g6_b4_0 k6_b4_1 g6_b4_1 k6_b4_2 g6_b4_2 k6_b4_3 g6_b4_3 k6_b4_4 g6_b4_4 k6_b4_5 g6_b4_5 k6_b4_6 g6_b4_6 k6_b4_7 g6_b4_7 k6_g7_0 g6_g7_0 k6_g7_1 g6_g7_1 k6_g7_2 g6_g7_2 k6_g7_3 g6_g7_3 k6_g8_0 g6_g8_0 k6_g8_1 g6_g8_1 k6_g8_2 g6_g8_2 k6_g8_3 g6_g8_3 k6_g9_0 g6_g9_0 k6_g9_1 g6_g9_1 k6_g9_2 g6_g9_2 k6_g9_3 g6_g9_3 k6_g10_0 g6_g10_0 k6_g10_1 g6_g10_1 k6_g10_2 g6_g10_2 k6_g10_3 g6_g10_3 B6 z6; intro f hf; have u26 : f 26 = (.agg #[.int .u8 l0, .int .u8 l1, .int .u8 l2, .int .u8 a]) := (by rw [← hf]; rfl); clear hf; intro w' _; simp only [execOp, resolve, invoke, rhoF_tmp, rhoF_func, rhoF_const, u26, List.map_toArray, List.map_cons, List.map_nil]; go_simp
  · clear k6_b3_0 g6_b3_0 k6_b3_1 g6_b3_1 k6_b3_2 g6_b3_2 k6_b3_3 g6_b3_3 k6_b4_0 g6_b4_0 k6_b4_1 g6_b4_1 k6_b4_2 g6_b4_2 k6_b4_3 g6_b4_3 k6_b4_4 g6_b4_4 k6_b4_5 g6_b4_5 k6_b4_6 g6_b4_6 k6_b4_7 g6_b4_7 k6_g7_0 g6_g7_0 k6_g7_1 g6_g7_1 k6_g7_2 g6_g7_2 k6_g7_3 g6_g7_3 k6_g8_0 g6_g8_0 k6_g8_1 g6_g8_1 k6_g8_2 g6_g8_2 k6_g8_3 g6_g8_3 k6_g9_0 g6_g9_0 k6_g9_1 g6_g9_1 k6_g9_2 g6_g9_2 k6_g9_3 g6_g9_3 k6_g10_0 g6_g10_0 k6_g10_1 g6_g10_1 k6_g10_2 g6_g10_2 k6_g10_3 g6_g10_3 B6 z6; rintro w' ⟨h0, h1, h2, h3, h4, h5, h6, h7, h8, h9, h10, h11, h12, h13, h14, h15, h16, h17, h18, h19, h20, h21, h22, h23, h24, h25, h26, h27, h28, h29, h30, h31, h32, h33, h34, h35, h36, h37, h38, h39, h40, h41, h42, h43, h44, h45, h46, h47, h48, h49, h50, h51, h52, h53, h54, h55⟩; exact cu1 _
  refine obe_call (by rfl) ?_ ?_ ?_
  · clear k6_b3_0 g6_b3_0 k6_b3_1 g6_b3_1 k6_b3_2 g6_b3_2 k6_b3_3 g6_b3_3 k6_b4_0 g6_b4_0 k6_b4_1 g6_b4_1 k6_b4_2 g6_b4_2 k6_b4_3 g6_b4_3 k6_b4_4 g6_b4_4 k6_b4_5 g6_b4_5 k6_b4_6 g6_b4_6 k6_b4_7 g6_b4_7 k6_g7_0 g6_g7_0 k6_g7_1 g6_g7_1 k6_g7_2 g6_g7_2 k6_g7_3 g6_g7_3 k6_g8_0 g6_g8_0 k6_g8_1 g6_g8_1 k6_g8_2 g6_g8_2 k6_g8_3 g6_g8_3 k6_g9_0 g6_g9_0 k6_g9_1 g6_g9_1 k6_g9_2 g6_g9_2 k6_g9_3 g6_g9_3 k6_g10_0 g6_g10_0 k6_g10_1 g6_g10_1 k6_g10_2 g6_g10_2 k6_g10_3 g6_g10_3 B6 z6; intro f hf; have u27 : f 27 = (.agg #[.int .u8 x1, .int .u8 y1, .int .u8 z1, .int .u8 a]) := (by rw [← hf]; rfl); clear hf; intro w' _; simp only [execOp, resolve, invoke, rhoF_tmp, rhoF_func, rhoF_const, u27, List.map_toArray, List.map_cons, List.map_nil]; go_simp
  · clear k6_b3_0 g6_b3_0 k6_b3_1 g6_b3_1 k6_b3_2 g6_b3_2 k6_b3_3 g6_b3_3 k6_b4_0 g6_b4_0 k6_b4_1 g6_b4_1 k6_b4_2 g6_b4_2 k6_b4_3 g6_b4_3 k6_b4_4 g6_b4_4 k6_b4_5 g6_b4_5 k6_b4_6 g6_b4_6 k6_b4_7 g6_b4_7 k6_g7_0 g6_g7_0 k6_g7_1 g6_g7_1 k6_g7_2 g6_g7_2 k6_g7_3 g6_g7_3 k6_g8_0 g6_g8_0 k6_g8_1 g6_g8_1 k6_g8_2 g6_g8_2 k6_g8_3 g6_g8_3 k6_g9_0 g6_g9_0 k6_g9_1 g6_g9_1 k6_g9_2 g6_g9_2 k6_g9_3 g6_g9_3 k6_g10_0 g6_g10_0 k6_g10_1 g6_g10_1 k6_g10_2 g6_g10_2 k6_g10_3 g6_g10_3 B6 z6; rintro w' ⟨h0, h1, h2, h3, h4, h5, h6, h7, h8, h9, h10, h11, h12, h13, h14, h15, h16, h17, h18, h19, h20, h21, h22, h23, h24, h25, h26, h27, h28, h29, h30, h31, h32, h33, h34, h35, h36, h37, h38, h39, h40, h41, h42, h43, h44, h45, h46, h47, h48, h49, h50, h51, h52, h53, h54, h55⟩; exact cp1 _
  refine obe_val (by rfl) ?_ ?_
  · clear k6_b3_0 g6_b3_0 k6_b3_1 g6_b3_1 k6_b3_2 g6_b3_2 k6_b3_3 g6_b3_3 k6_b4_0 g6_b4_0 k6_b4_1 g6_b4_1 k6_b4_2 g6_b4_2 k6_b4_3 g6_b4_3 k6_b4_4 g6_b4_4 k6_b4_5 g6_b4_5 k6_b4_6 g6_b4_6 k6_b4_7 g6_b4_7 k6_g7_0 g6_g7_0 k6_g7_1 g6_g7_1 k6_g7_2 g6_g7_2 k6_g7_3 g6_g7_3 k6_g8_0 g6_g8_0 k6_g8_1 g6_g8_1 k6_g8_2 g6_g8_2 k6_g8_3 g6_g8_3 k6_g9_0 g6_g9_0 k6_g9_1 g6_g9_1 k6_g9_2 g6_g9_2 k6_g9_3 g6_g9_3 k6_g10_0 g6_g10_0 k6_g10_1 g6_g10_1 k6_g10_2 g6_g10_2 k6_g10_3 g6_g10_3 B6 z6; intro f hf; have u9 : f 9 = (.pointer (some ⟨w3.heap.size, 0, none⟩)) := (by rw [← hf]; rfl); clear hf; rintro w' ⟨h0, h1, h2, h3, h4, h5, h6, h7, h8, h9, h10, h11, h12, h13, h14, h15, h16, h17, h18, h19, h20, h21, h22, h23, h24, h25, h26, h27, h28, h29, h30, h31, h32, h33, h34, h35, h36, h37, h38, h39, h40, h41, h42, h43, h44, h45, h46, h47, h48, h49, h50, h51, h52, h53, h54, h55⟩; go_simp; try exact IntWalk.i64_in _ (by omega)
  refine obe_val (by rfl) ?_ ?_
  · clear k6_b3_0 g6_b3_0 k6_b3_1 g6_b3_1 k6_b3_2 g6_b3_2 k6_b3_3 g6_b3_3 k6_b4_0 g6_b4_0 k6_b4_1 g6_b4_1 k6_b4_2 g6_b4_2 k6_b4_3 g6_b4_3 k6_b4_4 g6_b4_4 k6_b4_5 g6_b4_5 k6_b4_6 g6_b4_6 k6_b4_7 g6_b4_7 k6_g7_0 g6_g7_0 k6_g7_1 g6_g7_1 k6_g7_2 g6_g7_2 k6_g7_3 g6_g7_3 k6_g8_0 g6_g8_0 k6_g8_1 g6_g8_1 k6_g8_2 g6_g8_2 k6_g8_3 g6_g8_3 k6_g9_0 g6_g9_0 k6_g9_1 g6_g9_1 k6_g9_2 g6_g9_2 k6_g9_3 g6_g9_3 k6_g10_0 g6_g10_0 k6_g10_1 g6_g10_1 k6_g10_2 g6_g10_2 k6_g10_3 g6_g10_3 B6 z6; intro f hf; have u28 : f 28 = (.agg #[.int .u8 l0, .int .u8 l1, .int .u8 l2, .int .u8 a]) := (by rw [← hf]; rfl); have u29 : f 29 = (.agg #[.int .u8 l0, .int .u8 l1, .int .u8 l2, .int .u8 a]) := (by rw [← hf]; rfl); clear hf; rintro w' ⟨h0, h1, h2, h3, h4, h5, h6, h7, h8, h9, h10, h11, h12, h13, h14, h15, h16, h17, h18, h19, h20, h21, h22, h23, h24, h25, h26, h27, h28, h29, h30, h31, h32, h33, h34, h35, h36, h37, h38, h39, h40, h41, h42, h43, h44, h45, h46, h47, h48, h49, h50, h51, h52, h53, h54, h55⟩; go_simp; try exact IntWalk.i64_in _ (by omega)
  refine obe_val (by rfl) ?_ ?_
  · clear k6_b3_0 g6_b3_0 k6_b3_1 g6_b3_1 k6_b3_2 g6_b3_2 k6_b3_3 g6_b3_3 k6_b4_0 g6_b4_0 k6_b4_1 g6_b4_1 k6_b4_2 g6_b4_2 k6_b4_3 g6_b4_3 k6_b4_4 g6_b4_4 k6_b4_5 g6_b4_5 k6_b4_6 g6_b4_6 k6_b4_7 g6_b4_7 k6_g7_0 g6_g7_0 k6_g7_1 g6_g7_1 k6_g7_2 g6_g7_2 k6_g7_3 g6_g7_3 k6_g8_0 g6_g8_0 k6_g8_1 g6_g8_1 k6_g8_2 g6_g8_2 k6_g8_3 g6_g8_3 k6_g9_0 g6_g9_0 k6_g9_1 g6_g9_1 k6_g9_2 g6_g9_2 k6_g9_3 g6_g9_3 k6_g10_0 g6_g10_0 k6_g10_1 g6_g10_1 k6_g10_2 g6_g10_2 k6_g10_3 g6_g10_3 B6 z6; intro f hf; have u30 : f 30 = (.bool true) := (by rw [← hf]; rfl); clear hf; rintro w' ⟨h0, h1, h2, h3, h4, h5, h6, h7, h8, h9, h10, h11, h12, h13, h14, h15, h16, h17, h18, h19, h20, h21, h22, h23, h24, h25, h26, h27, h28, h29, h30, h31, h32, h33, h34, h35, h36, h37, h38, h39, h40, h41, h42, h43, h44, h45, h46, h47, h48, h49, h50, h51, h52, h53, h54, h55⟩; go_simp; try exact IntWalk.i64_in _ (by omega)
  refine obe_val (by rfl) ?_ ?_
  · clear k6_b3_0 g6_b3_0 k6_b3_1 g6_b3_1 k6_b3_2 g6_b3_2 k6_b3_3 g6_b3_3 k6_b4_0 g6_b4_0 k6_b4_1 g6_b4_1 k6_b4_2 g6_b4_2 k6_b4_3 g6_b4_3 k6_b4_4 g6_b4_4 k6_b4_5 g6_b4_5 k6_b4_6 g6_b4_6 k6_b4_7 g6_b4_7 k6_g7_0 g6_g7_0 k6_g7_1 g6_g7_1 k6_g7_2 g6_g7_2 k6_g7_3 g6_g7_3 k6_g8_0 g6_g8_0 k6_g8_1 g6_g8_1 k6_g8_2 g6_g8_2 k6_g8_3 g6_g8_3 k6_g9_0 g6_g9_0 k6_g9_1 g6_g9_1 k6_g9_2 g6_g9_2 k6_g9_3 g6_g9_3 k6_g10_0 g6_g10_0 k6_g10_1 g6_g10_1 k6_g10_2 g6_g10_2 k6_g10_3 g6_g10_3 B6 z6; intro f hf; have u10 : f 10 = (.pointer (some ⟨w5.heap.size, 0, none⟩)) := (by rw [← hf]; rfl); clear hf; rintro w' ⟨h0, h1, h2, h3, h4, h5, h6, h7, h8, h9, h10, h11, h12, h13, h14, h15, h16, h17, h18, h19, h20, h21, h22, h23, h24, h25, h26, h27, h28, h29, h30, h31, h32, h33, h34, h35, h36, h37, h38, h39, h40, h41, h42, h43, h44, h45, h46, h47, h48, h49, h50, h51, h52, h53, h54, h55⟩; go_simp; try exact IntWalk.i64_in _ (by omega)
  refine obe_val (by rfl) ?_ ?_
  · clear k6_b3_0 g6_b3_0 k6_b3_1 g6_b3_1 k6_b3_2 g6_b3_2 k6_b3_3 g6_b3_3 k6_b4_0 g6_b4_0 k6_b4_1 g6_b4_1 k6_b4_2 g6_b4_2 k6_b4_3 g6_b4_3 k6_b4_4 g6_b4_4 k6_b4_5 g6_b4_5 k6_b4_6 g6_b4_6 k6_b4_7 g6_b4_7 k6_g7_0 g6_g7_0 k6_g7_1 g6_g7_1 k6_g7_2 g6_g7_2 k6_g7_3 g6_g7_3 k6_g8_0 g6_g8_0 k6_g8_1 g6_g8_1 k6_g8_2 g6_g8_2 k6_g8_3 g6_g8_3 k6_g9_0 g6_g9_0 k6_g9_1 g6_g9_1 k6_g9_2 g6_g9_2 k6_g9_3 g6_g9_3 k6_g10_0 g6_g10_0 k6_g10_1 g6_g10_1 k6_g10_2 g6_g10_2 k6_g10_3 g6_g10_3 B6 z6; intro f hf; have u3 : f 3 = (.pointer (some ⟨w.heap.size, 0, none⟩)) := (by rw [← hf]; rfl); clear hf; rintro w' ⟨h0, h1, h2, h3, h4, h5, h6, h7, h8, h9, h10, h11, h12, h13, h14, h15, h16, h17, h18, h19, h20, h21, h22, h23, h24, h25, h26, h27, h28, h29, h30, h31, h32, h33, h34, h35, h36, h37, h38, h39, h40, h41, h42, h43, h44, h45, h46, h47, h48, h49, h50, h51, h52, h53, h54, h55⟩; go_simp; try exact IntWalk.i64_in _ (by omega)
  refine obe_val (by rfl) ?_ ?_
  · clear k6_b3_0 g6_b3_0 k6_b3_1 g6_b3_1 k6_b3_2 g6_b3_2 k6_b3_3 g6_b3_3 k6_b4_0 g6_b4_0 k6_b4_1 g6_b4_1 k6_b4_2 g6_b4_2 k6_b4_3 g6_b4_3 k6_b4_4 g6_b4_4 k6_b4_5 g6_b4_5 k6_b4_6 g6_b4_6 k6_b4_7 g6_b4_7 k6_g7_0 g6_g7_0 k6_g7_1 g6_g7_1 k6_g7_2 g6_g7_2 k6_g7_3 g6_g7_3 k6_g8_0 g6_g8_0 k6_g8_1 g6_g8_1 k6_g8_2 g6_g8_2 k6_g8_3 g6_g8_3 k6_g9_0 g6_g9_0 k6_g9_1 g6_g9_1 k6_g9_2 g6_g9_2 k6_g9_3 g6_g9_3 k6_g10_0 g6_g10_0 k6_g10_1 g6_g10_1 k6_g10_2 g6_g10_2 k6_g10_3 g6_g10_3 B6 z6; intro f hf; have u32 : f 32 = (.agg #[.int .u8 r, .int .u8 g, .int .u8 b, .int .u8 a]) := (by rw [← hf]; rfl); have u33 : f 33 = (.agg #[.int .u8 r, .int .u8 g, .int .u8 b, .int .u8 a]) := (by rw [← hf]; rfl); clear hf; rintro w' ⟨h0, h1, h2, h3, h4, h5, h6, h7, h8, h9, h10, h11, h12, h13, h14, h15, h16, h17, h18, h19, h20, h21, h22, h23, h24, h25, h26, h27, h28, h29, h30, h31, h32, h33, h34, h35, h36, h37, h38, h39, h40, h41, h42, h43, h44, h45, h46, h47, h48, h49, h50, h51, h52, h53, h54, h55⟩; go_simp; try exact IntWalk.i64_in _ (by omega)
  refine obe_val (by rfl) ?_ ?_
  · clear k6_b3_0 g6_b3_0 k6_b3_1 g6_b3_1 k6_b3_2 g6_b3_2 k6_b3_3 g6_b3_3 k6_b4_0 g6_b4_0 k6_b4_1 g6_b4_1 k6_b4_2 g6_b4_2 k6_b4_3 g6_b4_3 k6_b4_4 g6_b4_4 k6_b4_5 g6_b4_5 k6_b4_6 g6_b4_6 k6_b4_7 g6_b4_7 k6_g7_0 g6_g7_0 k6_g7_1 g6_g7_1 k6_g7_2 g6_g7_2 k6_g7_3 g6_g7_3 k6_g8_0 g6_g8_0 k6_g8_1 g6_g8_1 k6_g8_2 g6_g8_2 k6_g8_3 g6_g8_3 k6_g9_0 g6_g9_0 k6_g9_1 g6_g9_1 k6_g9_2 g6_g9_2 k6_g9_3 g6_g9_3 k6_g10_0 g6_g10_0 k6_g10_1 g6_g10_1 k6_g10_2 g6_g10_2 k6_g10_3 g6_g10_3 B6 z6; intro f hf; have u31 : f 31 = (.bool true) := (by rw [← hf]; rfl); have u34 : f 34 = (.bool true) := (by rw [← hf]; rfl); clear hf; rintro w' ⟨h0, h1, h2, h3, h4, h5, h6, h7, h8, h9, h10, h11, h12, h13, h14, h15, h16, h17, h18, h19, h20, h21, h22, h23, h24, h25, h26, h27, h28, h29, h30, h31, h32, h33, h34, h35, h36, h37, h38, h39, h40, h41, h42, h43, h44, h45, h46, h47, h48, h49, h50, h51, h52, h53, h54, h55⟩; go_simp; try exact IntWalk.i64_in _ (by omega)
  refine obe_val (by rfl) ?_ ?_
  · clear k6_b3_0 g6_b3_0 k6_b3_1 g6_b3_1 k6_b3_2 g6_b3_2 k6_b3_3 g6_b3_3 k6_b4_0 g6_b4_0 k6_b4_1 g6_b4_1 k6_b4_2 g6_b4_2 k6_b4_3 g6_b4_3 k6_b4_4 g6_b4_4 k6_b4_5 g6_b4_5 k6_b4_6 g6_b4_6 k6_b4_7 g6_b4_7 k6_g7_0 g6_g7_0 k6_g7_1 g6_g7_1 k6_g7_2 g6_g7_2 k6_g7_3 g6_g7_3 k6_g8_0 g6_g8_0 k6_g8_1 g6_g8_1 k6_g8_2 g6_g8_2 k6_g8_3 g6_g8_3 k6_g9_0 g6_g9_0 k6_g9_1 g6_g9_1 k6_g9_2 g6_g9_2 k6_g9_3 g6_g9_3 k6_g10_0 g6_g10_0 k6_g10_1 g6_g10_1 k6_g10_2 g6_g10_2 k6_g10_3 g6_g10_3 B6 z6; intro f hf; have u35 : f 35 = (.bool true) := (by rw [← hf]; rfl); clear hf; rintro w' ⟨h0, h1, h2, h3, h4, h5, h6, h7, h8, h9, h10, h11, h12, h13, h14, h15, h16, h17, h18, h19, h20, h21, h22, h23, h24, h25, h26, h27, h28, h29, h30, h31, h32, h33, h34, h35, h36, h37, h38, h39, h40, h41, h42, h43, h44, h45, h46, h47, h48, h49, h50, h51, h52, h53, h54, h55⟩; go_simp; try exact IntWalk.i64_in _ (by omega)
  refine obe_val (by rfl) ?_ ?_
  · clear k6_b3_0 g6_b3_0 k6_b3_1 g6_b3_1 k6_b3_2 g6_b3_2 k6_b3_3 g6_b3_3 k6_b4_0 g6_b4_0 k6_b4_1 g6_b4_1 k6_b4_2 g6_b4_2 k6_b4_3 g6_b4_3 k6_b4_4 g6_b4_4 k6_b4_5 g6_b4_5 k6_b4_6 g6_b4_6 k6_b4_7 g6_b4_7 k6_g7_0 g6_g7_0 k6_g7_1 g6_g7_1 k6_g7_2 g6_g7_2 k6_g7_3 g6_g7_3 k6_g8_0 g6_g8_0 k6_g8_1 g6_g8_1 k6_g8_2 g6_g8_2 k6_g8_3 g6_g8_3 k6_g9_0 g6_g9_0 k6_g9_1 g6_g9_1 k6_g9_2 g6_g9_2 k6_g9_3 g6_g9_3 k6_g10_0 g6_g10_0 k6_g10_1 g6_g10_1 k6_g10_2 g6_g10_2 k6_g10_3 g6_g10_3 B6 z6; intro f hf; have u11 : f 11 = (.int .i64 0) := (by rw [← hf]; rfl); clear hf; rintro w' ⟨h0, h1, h2, h3, h4, h5, h6, h7, h8, h9, h10, h11, h12, h13, h14, h15, h16, h17, h18, h19, h20, h21, h22, h23, h24, h25, h26, h27, h28, h29, h30, h31, h32, h33, h34, h35, h36, h37, h38, h39, h40, h41, h42, h43, h44, h45, h46, h47, h48, h49, h50, h51, h52, h53, h54, h55⟩; go_simp; try exact IntWalk.i64_in _ (by omega)
  refine obe_val (by rfl) ?_ ?_
  · clear k6_b3_0 g6_b3_0 k6_b3_1 g6_b3_1 k6_b3_2 g6_b3_2 k6_b3_3 g6_b3_3 k6_b4_0 g6_b4_0 k6_b4_1 g6_b4_1 k6_b4_2 g6_b4_2 k6_b4_3 g6_b4_3 k6_b4_4 g6_b4_4 k6_b4_5 g6_b4_5 k6_b4_6 g6_b4_6 k6_b4_7 g6_b4_7 k6_g7_0 g6_g7_0 k6_g7_1 g6_g7_1 k6_g7_2 g6_g7_2 k6_g7_3 g6_g7_3 k6_g8_0 g6_g8_0 k6_g8_1 g6_g8_1 k6_g8_2 g6_g8_2 k6_g8_3 g6_g8_3 k6_g9_0 g6_g9_0 k6_g9_1 g6_g9_1 k6_g9_2 g6_g9_2 k6_g9_3 g6_g9_3 k6_g10_0 g6_g10_0 k6_g10_1 g6_g10_1 k6_g10_2 g6_g10_2 k6_g10_3 g6_g10_3 B6 z6; intro f hf; have u37 : f 37 = (.int .i64 0) := (by rw [← hf]; rfl); clear hf; rintro w' ⟨h0, h1, h2, h3, h4, h5, h6, h7, h8, h9, h10, h11, h12, h13, h14, h15, h16, h17, h18, h19, h20, h21, h22, h23, h24, h25, h26, h27, h28, h29, h30, h31, h32, h33, h34, h35, h36, h37, h38, h39, h40, h41, h42, h43, h44, h45, h46, h47, h48, h49, h50, h51, h52, h53, h54, h55⟩; go_simp; try exact IntWalk.i64_in _ (by omega)
  refine obe_val (by rfl) ?_ ?_
  · clear k6_b3_0 g6_b3_0 k6_b3_1 g6_b3_1 k6_b3_2 g6_b3_2 k6_b3_3 g6_b3_3 k6_b4_0 g6_b4_0 k6_b4_1 g6_b4_1 k6_b4_2 g6_b4_2 k6_b4_3 g6_b4_3 k6_b4_4 g6_b4_4 k6_b4_5 g6_b4_5 k6_b4_6 g6_b4_6 k6_b4_7 g6_b4_7 k6_g7_0 g6_g7_0 k6_g7_1 g6_g7_1 k6_g7_2 g6_g7_2 k6_g7_3 g6_g7_3 k6_g8_0 g6_g8_0 k6_g8_1 g6_g8_1 k6_g8_2 g6_g8_2 k6_g8_3 g6_g8_3 k6_g9_0 g6_g9_0 k6_g9_1 g6_g9_1 k6_g9_2 g6_g9_2 k6_g9_3 g6_g9_3 k6_g10_0 g6_g10_0 k6_g10_1 g6_g10_1 k6_g10_2 g6_g10_2 k6_g10_3 g6_g10_3 B6 z6; intro f hf; have u36 : f 36 = (.bool true) := (by rw [← hf]; rfl); have u38 : f 38 = (.bool true) := (by rw [← hf]; rfl); clear hf; rintro w' ⟨h0, h1, h2, h3, h4, h5, h6, h7, h8, h9, h10, h11, h12, h13, h14, h15, h16, h17, h18, h19, h20, h21, h22, h23, h24, h25, h26, h27, h28, h29, h30, h31, h32, h33, h34, h35, h36, h37, h38, h39, h40, h41, h42, h43, h44, h45, h46, h47, h48, h49, h50, h51, h52, h53, h54, h55⟩; go_simp; try exact IntWalk.i64_in _ (by omega)
  refine obe_val (by rfl) ?_ ?_
  · clear k6_b3_0 g6_b3_0 k6_b3_1 g6_b3_1 k6_b3_2 g6_b3_2 k6_b3_3 g6_b3_3 k6_b4_0 g6_b4_0 k6_b4_1 g6_b4_1 k6_b4_2 g6_b4_2 k6_b4_3 g6_b4_3 k6_b4_4 g6_b4_4 k6_b4_5 g6_b4_5 k6_b4_6 g6_b4_6 k6_b4_7 g6_b4_7 k6_g7_0 g6_g7_0 k6_g7_1 g6_g7_1 k6_g7_2 g6_g7_2 k6_g7_3 g6_g7_3 k6_g8_0 g6_g8_0 k6_g8_1 g6_g8_1 k6_g8_2 g6_g8_2 k6_g8_3 g6_g8_3 k6_g9_0 g6_g9_0 k6_g9_1 g6_g9_1 k6_g9_2 g6_g9_2 k6_g9_3 g6_g9_3 k6_g10_0 g6_g10_0 k6_g10_1 g6_g10_1 k6_g10_2 g6_g10_2 k6_g10_3 g6_g10_3 B6 z6; intro f hf; have u39 : f 39 = (.bool true) := (by rw [← hf]; rfl); clear hf; rintro w' ⟨h0, h1, h2, h3, h4, h5, h6, h7, h8, h9, h10, h11, h12, h13, h14, h15, h16, h17, h18, h19, h20, h21, h22, h23, h24, h25, h26, h27, h28, h29, h30, h31, h32, h33, h34, h35, h36, h37, h38, h39, h40, h41, h42, h43, h44, h45, h46, h47, h48, h49, h50, h51, h52, h53, h54, h55⟩; go_simp; try exact IntWalk.i64_in _ (by omega)
  refine obe_val (by rfl) ?_ ?_
  · clear k6_b3_0 g6_b3_0 k6_b3_1 g6_b3_1 k6_b3_2 g6_b3_2 k6_b3_3 g6_b3_3 k6_b4_0 g6_b4_0 k6_b4_1 g6_b4_1 k6_b4_2 g6_b4_2 k6_b4_3 g6_b4_3 k6_b4_4 g6_b4_4 k6_b4_5 g6_b4_5 k6_b4_6 g6_b4_6 k6_b4_7 g6_b4_7 k6_g7_0 g6_g7_0 k6_g7_1 g6_g7_1 k6_g7_2 g6_g7_2 k6_g7_3 g6_g7_3 k6_g8_0 g6_g8_0 k6_g8_1 g6_g8_1 k6_g8_2 g6_g8_2 k6_g8_3 g6_g8_3 k6_g9_0 g6_g9_0 k6_g9_1 g6_g9_1 k6_g9_2 g6_g9_2 k6_g9_3 g6_g9_3 k6_g10_0 g6_g10_0 k6_g10_1 g6_g10_1 k6_g10_2 g6_g10_2 k6_g10_3 g6_g10_3 B6 z6; intro f hf; have u7 : f 7 = (.pointer (some ⟨g7, 0, none⟩)) := (by rw [← hf]; rfl); clear hf; rintro w' ⟨h0, h1, h2, h3, h4, h5, h6, h7, h8, h9, h10, h11, h12, h13, h14, h15, h16, h17, h18, h19, h20, h21, h22, h23, h24, h25, h26, h27, h28, h29, h30, h31, h32, h33, h34, h35, h36, h37, h38, h39, h40, h41, h42, h43, h44, h45, h46, h47, h48, h49, h50, h51, h52, h53, h54, h55⟩; go_simp; try exact IntWalk.i64_in _ (by omega)
  refine obe_val (by rfl) ?_ ?_
  · clear k6_b3_0 g6_b3_0 k6_b3_1 g6_b3_1 k6_b3_2 g6_b3_2 k6_b3_3 g6_b3_3 k6_b4_0 g6_b4_0 k6_b4_1 g6_b4_1 k6_b4_2 g6_b4_2 k6_b4_3 g6_b4_3 k6_b4_4 g6_b4_4 k6_b4_5 g6_b4_5 k6_b4_6 g6_b4_6 k6_b4_7 g6_b4_7 k6_g7_0 g6_g7_0 k6_g7_1 g6_g7_1 k6_g7_2 g6_g7_2 k6_g7_3 g6_g7_3 k6_g8_0 g6_g8_0 k6_g8_1 g6_g8_1 k6_g8_2 g6_g8_2 k6_g8_3 g6_g8_3 k6_g9_0 g6_g9_0 k6_g9_1 g6_g9_1 k6_g9_2 g6_g9_2 k6_g9_3 g6_g9_3 k6_g10_0 g6_g10_0 k6_g10_1 g6_g10_1 k6_g10_2 g6_g10_2 k6_g10_3 g6_g10_3 B6 z6; intro f hf; have u2 : f 2 = (.int .u8 k) := (by rw [← hf]; rfl); clear hf; rintro w' ⟨h0, h1, h2, h3, h4, h5, h6, h7, h8, h9, h10, h11, h12, h13, h14, h15, h16, h17, h18, h19, h20, h21, h22, h23, h24, h25, h26, h27, h28, h29, h30, h31, h32, h33, h34, h35, h36, h37, h38, h39, h40, h41, h42, h43, h44, h45, h46, h47, h48, h49, h50, h51, h52, h53, h54, h55⟩; go_simp; try exact IntWalk.i64_in _ (by omega)
  refine obe_call (by rfl) ?_ ?_ ?_
  · clear k6_b3_0 g6_b3_0 k6_b3_1 g6_b3_1 k6_b3_2 g6_b3_2 k6_b3_3 g6_b3_3 k6_b4_0 g6_b4_0 k6_b4_1 g6_b4_1 k6_b4_2 g6_b4_2 k6_b4_3 g6_b4_3 k6_b4_4 g6_b4_4 k6_b4_5 g6_b4_5 k6_b4_6 g6_b4_6 k6_b4_7 g6_b4_7 k6_g7_0 g6_g7_0 k6_g7_1 g6_g7_1 k6_g7_2 g6_g7_2 k6_g7_3 g6_g7_3 k6_g8_0 g6_g8_0 k6_g8_1 g6_g8_1 k6_g8_2 g6_g8_2 k6_g8_3 g6_g8_3 k6_g9_0 g6_g9_0 k6_g9_1 g6_g9_1 k6_g9_2 g6_g9_2 k6_g9_3 g6_g9_3 k6_g10_0 g6_g10_0 k6_g10_1 g6_g10_1 k6_g10_2 g6_g10_2 k6_g10_3 g6_g10_3 B6 z6; intro f hf; have u41 : f 41 = (.agg #[.int .u8 cs, .int .u8 ct, .int .u8 cu, .int .u8 d]) := (by rw [← hf]; rfl); have u42 : f 42 = (.int .u8 k) := (by rw [← hf]; rfl); clear hf; intro w' _; simp only [execOp, resolve, invoke, rhoF_tmp, rhoF_func, rhoF_const, u41, u42, List.map_toArray, List.map_cons, List.map_nil]; go_simp
  · clear k6_b3_0 g6_b3_0 k6_b3_1 g6_b3_1 k6_b3_2 g6_b3_2 k6_b3_3 g6_b3_3 k6_b4_0 g6_b4_0 k6_b4_1 g6_b4_1 k6_b4_2 g6_b4_2 k6_b4_3 g6_b4_3 k6_b4_4 g6_b4_4 k6_b4_5 g6_b4_5 k6_b4_6 g6_b4_6 k6_b4_7 g6_b4_7 k6_g7_0 g6_g7_0 k6_g7_1 g6_g7_1 k6_g7_2 g6_g7_2 k6_g7_3 g6_g7_3 k6_g8_0 g6_g8_0 k6_g8_1 g6_g8_1 k6_g8_2 g6_g8_2 k6_g8_3 g6_g8_3 k6_g9_0 g6_g9_0 k6_g9_1 g6_g9_1 k6_g9_2 g6_g9_2 k6_g9_3 g6_g9_3 k6_g10_0 g6_g10_0 k6_g10_1 g6_g10_1 k6_g10_2 g6_g10_2 k6_g10_3 g6_g10_3 B6 z6; rintro w' ⟨h0, h1, h2, h3, h4, h5, h6, h7, h8, h9, h10, h11, h12, h13, h14, h15, h16, h17, h18, h19, h20, h21, h22, h23, h24, h25, h26, h27, h28, h29, h30, h31, h32, h33, h34, h35, h36, h37, h38, h39, h40, h41, h42, h43, h44, h45, h46, h47, h48, h49, h50, h51, h52, h53, h54, h55⟩; exact csc _
  refine obe_call (by rfl) ?_ ?_ ?_
  · clear k6_b3_0 g6_b3_0 k6_b3_1 g6_b3_1 k6_b3_2 g6_b3_2 k6_b3_3 g6_b3_3 k6_b4_0 g6_b4_0 k6_b4_1 g6_b4_1 k6_b4_2 g6_b4_2 k6_b4_3 g6_b4_3 k6_b4_4 g6_b4_4 k6_b4_5 g6_b4_5 k6_b4_6 g6_b4_6 k6_b4_7 g6_b4_7 k6_g7_0 g6_g7_0 k6_g7_1 g6_g7_1 k6_g7_2 g6_g7_2 k6_g7_3 g6_g7_3 k6_g8_0 g6_g8_0 k6_g8_1 g6_g8_1 k6_g8_2 g6_g8_2 k6_g8_3 g6_g8_3 k6_g9_0 g6_g9_0 k6_g9_1 g6_g9_1 k6_g9_2 g6_g9_2 k6_g9_3 g6_g9_3 k6_g10_0 g6_g10_0 k6_g10_1 g6_g10_1 k6_g10_2 g6_g10_2 k6_g10_3 g6_g10_3 B6 z6; intro f hf; have u43 : f 43 = (.agg #[.int .u8 m0, .int .u8 m1, .int .u8 m2, .int .u8 m3]) := (by rw [← hf]; rfl); clear hf; intro w' _; simp only [execOp, resolve, invoke, rhoF_tmp, rhoF_func, rhoF_const, u43, List.map_toArray, List.map_cons, List.map_nil]; go_simp
  · clear k6_b3_0 g6_b3_0 k6_b3_1 g6_b3_1 k6_b3_2 g6_b3_2 k6_b3_3 g6_b3_3 k6_b4_0 g6_b4_0 k6_b4_1 g6_b4_1 k6_b4_2 g6_b4_2 k6_b4_3 g6_b4_3 k6_b4_4 g6_b4_4 k6_b4_5 g6_b4_5 k6_b4_6 g6_b4_6 k6_b4_7 g6_b4_7 k6_g7_0 g6_g7_0 k6_g7_1 g6_g7_1 k6_g7_2 g6_g7_2 k6_g7_3 g6_g7_3 k6_g8_0 g6_g8_0 k6_g8_1 g6_g8_1 k6_g8_2 g6_g8_2 k6_g8_3 g6_g8_3 k6_g9_0 g6_g9_0 k6_g9_1 g6_g9_1 k6_g9_2 g6_g9_2 k6_g9_3 g6_g9_3 k6_g10_0 g6_g10_0 k6_g10_1 g6_g10_1 k6_g10_2 g6_g10_2 k6_g10_3 g6_g10_3 B6 z6; rintro w' ⟨h0, h1, h2, h3, h4, h5, h6, h7, h8, h9, h10, h11, h12, h13, h14, h15, h16, h17, h18, h19, h20, h21, h22, h23, h24, h25, h26, h27, h28, h29, h30, h31, h32, h33, h34, h35, h36, h37, h38, h39, h40, h41, h42, h43, h44, h45, h46, h47, h48, h49, h50, h51, h52, h53, h54, h55⟩; exact cv1 _
  refine obe_val (by rfl) ?_ ?_
  · clear k6_b3_0 g6_b3_0 k6_b3_1 g6_b3_1 k6_b3_2 g6_b3_2 k6_b3_3 g6_b3_3 k6_b4_0 g6_b4_0 k6_b4_1 g6_b4_1 k6_b4_2 g6_b4_2 k6_b4_3 g6_b4_3 k6_b4_4 g6_b4_4 k6_b4_5 g6_b4_5 k6_b4_6 g6_b4_6 k6_b4_7 g6_b4_7 k6_g7_0 g6_g7_0 k6_g7_1 g6_g7_1 k6_g7_2 g6_g7_2 k6_g7_3 g6_g7_3 k6_g8_0 g6_g8_0 k6_g8_1 g6_g8_1 k6_g8_2 g6_g8_2 k6_g8_3 g6_g8_3 k6_g9_0 g6_g9_0 k6_g9_1 g6_g9_1 k6_g9_2 g6_g9_2 k6_g9_3 g6_g9_3 k6_g10_0 g6_g10_0 k6_g10_1 g6_g10_1 k6_g10_2 g6_g10_2 k6_g10_3 g6_g10_3 B6 z6; intro f hf; have u40 : f 40 = (.bool true) := (by rw [← hf]; rfl); have u44 : f 44 = (.bool true) := (by rw [← hf]; rfl); clear hf; rintro w' ⟨h0, h1, h2, h3, h4, h5, h6, h7, h8, h9, h10, h11, h12, h13, h14, h15, h16, h17, h18, h19, h20, h21, h22, h23, h24, h25, h26, h27, h28, h29, h30, h31, h32, h33, h34, h35, h36, h37, h38, h39, h40, h41, h42, h43, h44, h45, h46, h47, h48, h49, h50, h51, h52, h53, h54, h55⟩; go_simp; try exact IntWalk.i64_in _ (by omega)
  refine obe_val (by rfl) ?_ ?_
  · clear k6_b3_0 g6_b3_0 k6_b3_1 g6_b3_1 k6_b3_2 g6_b3_2 k6_b3_3 g6_b3_3 k6_b4_0 g6_b4_0 k6_b4_1 g6_b4_1 k6_b4_2 g6_b4_2 k6_b4_3 g6_b4_3 k6_b4_4 g6_b4_4 k6_b4_5 g6_b4_5 k6_b4_6 g6_b4_6 k6_b4_7 g6_b4_7 k6_g7_0 g6_g7_0 k6_g7_1 g6_g7_1 k6_g7_2 g6_g7_2 k6_g7_3 g6_g7_3 k6_g8_0 g6_g8_0 k6_g8_1 g6_g8_1 k6_g8_2 g6_g8_2 k6_g8_3 g6_g8_3 k6_g9_0 g6_g9_0 k6_g9_1 g6_g9_1 k6_g9_2 g6_g9_2 k6_g9_3 g6_g9_3 k6_g10_0 g6_g10_0 k6_g10_1 g6_g10_1 k6_g10_2 g6_g10_2 k6_g10_3 g6_g10_3 B6 z6; intro f hf; have u45 : f 45 = (.bool true) := (by rw [← hf]; rfl); clear hf; rintro w' ⟨h0, h1, h2, h3, h4, h5, h6, h7, h8, h9, h10, h11, h12, h13, h14, h15, h16, h17, h18, h19, h20, h21, h22, h23, h24, h25, h26, h27, h28, h29, h30, h31, h32, h33, h34, h35, h36, h37, h38, h39, h40, h41, h42, h43, h44, h45, h46, h47, h48, h49, h50, h51, h52, h53, h54, h55⟩; go_simp; try exact IntWalk.i64_in _ (by omega)
  refine obe_val (by rfl) ?_ ?_
  · clear k6_b3_0 g6_b3_0 k6_b3_1 g6_b3_1 k6_b3_2 g6_b3_2 k6_b3_3 g6_b3_3 k6_b4_0 g6_b4_0 k6_b4_1 g6_b4_1 k6_b4_2 g6_b4_2 k6_b4_3 g6_b4_3 k6_b4_4 g6_b4_4 k6_b4_5 g6_b4_5 k6_b4_6 g6_b4_6 k6_b4_7 g6_b4_7 k6_g7_0 g6_g7_0 k6_g7_1 g6_g7_1 k6_g7_2 g6_g7_2 k6_g7_3 g6_g7_3 k6_g8_0 g6_g8_0 k6_g8_1 g6_g8_1 k6_g8_2 g6_g8_2 k6_g8_3 g6_g8_3 k6_g9_0 g6_g9_0 k6_g9_1 g6_g9_1 k6_g9_2 g6_g9_2 k6_g9_3 g6_g9_3 k6_g10_0 g6_g10_0 k6_g10_1 g6_g10_1 k6_g10_2 g6_g10_2 k6_g10_3 g6_g10_3 B6 z6; intro f hf; have u7 : f 7 = (.pointer (some ⟨g7, 0, none⟩)) := (by rw [← hf]; rfl); clear hf; rintro w' ⟨h0, h1, h2, h3, h4, h5, h6, h7, h8, h9, h10, h11, h12, h13, h14, h15, h16, h17, h18, h19, h20, h21, h22, h23, h24, h25, h26, h27, h28, h29, h30, h31, h32, h33, h34, h35, h36, h37, h38, h39, h40, h41, h42, h43, h44, h45, h46, h47, h48, h49, h50, h51, h52, h53, h54, h55⟩; go_simp; try exact IntWalk.i64_in _ (by omega)
  refine obe_val (by rfl) ?_ ?_
  · clear k6_b3_0 g6_b3_0 k6_b3_1 g6_b3_1 k6_b3_2 g6_b3_2 k6_b3_3 g6_b3_3 k6_b4_0 g6_b4_0 k6_b4_1 g6_b4_1 k6_b4_2 g6_b4_2 k6_b4_3 g6_b4_3 k6_b4_4 g6_b4_4 k6_b4_5 g6_b4_5 k6_b4_6 g6_b4_6 k6_b4_7 g6_b4_7 k6_g7_0 g6_g7_0 k6_g7_1 g6_g7_1 k6_g7_2 g6_g7_2 k6_g7_3 g6_g7_3 k6_g8_0 g6_g8_0 k6_g8_1 g6_g8_1 k6_g8_2 g6_g8_2 k6_g8_3 g6_g8_3 k6_g9_0 g6_g9_0 k6_g9_1 g6_g9_1 k6_g9_2 g6_g9_2 k6_g9_3 g6_g9_3 k6_g10_0 g6_g10_0 k6_g10_1 g6_g10_1 k6_g10_2 g6_g10_2 k6_g10_3 g6_g10_3 B6 z6; intro f hf; have u8 : f 8 = (.pointer (some ⟨g8, 0, none⟩)) := (by rw [← hf]; rfl); clear hf; rintro w' ⟨h0, h1, h2, h3, h4, h5, h6, h7, h8, h9, h10, h11, h12, h13, h14, h15, h16, h17, h18, h19, h20, h21, h22, h23, h24, h25, h26, h27, h28, h29, h30, h31, h32, h33, h34, h35, h36, h37, h38, h39, h40, h41, h42, h43, h44, h45, h46, h47, h48, h49, h50, h51, h52, h53, h54, h55⟩; go_simp; try exact IntWalk.i64_in _ (by omega)
  refine obe_val (by rfl) ?_ ?_
  · clear k6_b3_0 g6_b3_0 k6_b3_1 g6_b3_1 k6_b3_2 g6_b3_2 k6_b3_3 g6_b3_3 k6_b4_0 g6_b4_0 k6_b4_1 g6_b4_1 k6_b4_2 g6_b4_2 k6_b4_3 g6_b4_3 k6_b4_4 g6_b4_4 k6_b4_5 g6_b4_5 k6_b4_6 g6_b4_6 k6_b4_7 g6_b4_7 k6_g7_0 g6_g7_0 k6_g7_1 g6_g7_1 k6_g7_2 g6_g7_2 k6_g7_3 g6_g7_3 k6_g8_0 g6_g8_0 k6_g8_1 g6_g8_1 k6_g8_2 g6_g8_2 k6_g8_3 g6_g8_3 k6_g9_0 g6_g9_0 k6_g9_1 g6_g9_1 k6_g9_2 g6_g9_2 k6_g9_3 g6_g9_3 k6_g10_0 g6_g10_0 k6_g10_1 g6_g10_1 k6_g10_2 g6_g10_2 k6_g10_3 g6_g10_3 B6 z6; intro f hf; have u2 : f 2 = (.int .u8 k) := (by rw [← hf]; rfl); clear hf; rintro w' ⟨h0, h1, h2, h3, h4, h5, h6, h7, h8, h9, h10, h11, h12, h13, h14, h15, h16, h17, h18, h19, h20, h21, h22, h23, h24, h25, h26, h27, h28, h29, h30, h31, h32, h33, h34, h35, h36, h37, h38, h39, h40, h41, h42, h43, h44, h45, h46, h47, h48, h49, h50, h51, h52, h53, h54, h55⟩; go_simp; try exact IntWalk.i64_in _ (by omega)
  refine obe_call (by rfl) ?_ ?_ ?_
  · clear k6_b3_0 g6_b3_0 k6_b3_1 g6_b3_1 k6_b3_2 g6_b3_2 k6_b3_3 g6_b3_3 k6_b4_0 g6_b4_0 k6_b4_1 g6_b4_1 k6_b4_2 g6_b4_2 k6_b4_3 g6_b4_3 k6_b4_4 g6_b4_4 k6_b4_5 g6_b4_5 k6_b4_6 g6_b4_6 k6_b4_7 g6_b4_7 k6_g7_0 g6_g7_0 k6_g7_1 g6_g7_1 k6_g7_2 g6_g7_2 k6_g7_3 g6_g7_3 k6_g8_0 g6_g8_0 k6_g8_1 g6_g8_1 k6_g8_2 g6_g8_2 k6_g8_3 g6_g8_3 k6_g9_0 g6_g9_0 k6_g9_1 g6_g9_1 k6_g9_2 g6_g9_2 k6_g9_3 g6_g9_3 k6_g10_0 g6_g10_0 k6_g10_1 g6_g10_1 k6_g10_2 g6_g10_2 k6_g10_3 g6_g10_3 B6 z6; intro f hf; have u47 : f 47 = (.agg #[.int .u8 cs, .int .u8 ct, .int .u8 cu, .int .u8 d]) := (by rw [← hf]; rfl); have u48 : f 48 = (.agg #[.int .u8 cxr, .int .u8 cxg, .int .u8 cxb, .int .u8 xa]) := (by rw [← hf]; rfl); have u49 : f 49 = (.int .u8 k) := (by rw [← hf]; rfl); clear hf; intro w' _; simp only [execOp, resolve, invoke, rhoF_tmp, rhoF_func, rhoF_const, u47, u48, u49, List.map_toArray, List.map_cons, List.map_nil]; go_simp
  · clear k6_b3_0 g6_b3_0 k6_b3_1 g6_b3_1 k6_b3_2 g6_b3_2 k6_b3_3 g6_b3_3 k6_b4_0 g6_b4_0 k6_b4_1 g6_b4_1 k6_b4_2 g6_b4_2 k6_b4_3 g6_b4_3 k6_b4_4 g6_b4_4 k6_b4_5 g6_b4_5 k6_b4_6 g6_b4_6 k6_b4_7 g6_b4_7 k6_g7_0 g6_g7_0 k6_g7_1 g6_g7_1 k6_g7_2 g6_g7_2 k6_g7_3 g6_g7_3 k6_g8_0 g6_g8_0 k6_g8_1 g6_g8_1 k6_g8_2 g6_g8_2 k6_g8_3 g6_g8_3 k6_g9_0 g6_g9_0 k6_g9_1 g6_g9_1 k6_g9_2 g6_g9_2 k6_g9_3 g6_g9_3 k6_g10_0 g6_g10_0 k6_g10_1 g6_g10_1 k6_g10_2 g6_g10_2 k6_g10_3 g6_g10_3 B6 z6; rintro w' ⟨h0, h1, h2, h3, h4, h5, h6, h7, h8, h9, h10, h11, h12, h13, h14, h15, h16, h17, h18, h19, h20, h21, h22, h23, h24, h25, h26, h27, h28, h29, h30, h31, h32, h33, h34, h35, h36, h37, h38, h39, h40, h41, h42, h43, h44, h45, h46, h47, h48, h49, h50, h51, h52, h53, h54, h55⟩; exact cle _
  refine obe_call (by rfl) ?_ ?_ ?_
  · clear k6_b3_0 g6_b3_0 k6_b3_1 g6_b3_1 k6_b3_2 g6_b3_2 k6_b3_3 g6_b3_3 k6_b4_0 g6_b4_0 k6_b4_1 g6_b4_1 k6_b4_2 g6_b4_2 k6_b4_3 g6_b4_3 k6_b4_4 g6_b4_4 k6_b4_5 g6_b4_5 k6_b4_6 g6_b4_6 k6_b4_7 g6_b4_7 k6_g7_0 g6_g7_0 k6_g7_1 g6_g7_1 k6_g7_2 g6_g7_2 k6_g7_3 g6_g7_3 k6_g8_0 g6_g8_0 k6_g8_1 g6_g8_1 k6_g8_2 g6_g8_2 k6_g8_3 g6_g8_3 k6_g9_0 g6_g9_0 k6_g9_1 g6_g9_1 k6_g9_2 g6_g9_2 k6_g9_3 g6_g9_3 k6_g10_0 g6_g10_0 k6_g10_1 g6_g10_1 k6_g10_2 g6_g10_2 k6_g10_3 g6_g10_3 B6 z6; intro f hf; have u50 : f 50 = (.agg #[.int .u8 q0, .int .u8 q1, .int .u8 q2, .int .u8 q3]) := (by rw [← hf]; rfl); clear hf; intro w' _; simp only [execOp, resolve, invoke, rhoF_tmp, rhoF_func, rhoF_const, u50, List.map_toArray, List.map_cons, List.map_nil]; go_simp
  · clear k6_b3_0 g6_b3_0 k6_b3_1 g6_b3_1 k6_b3_2 g6_b3_2 k6_b3_3 g6_b3_3 k6_b4_0 g6_b4_0 k6_b4_1 g6_b4_1 k6_b4_2 g6_b4_2 k6_b4_3 g6_b4_3 k6_b4_4 g6_b4_4 k6_b4_5 g6_b4_5 k6_b4_6 g6_b4_6 k6_b4_7 g6_b4_7 k6_g7_0 g6_g7_0 k6_g7_1 g6_g7_1 k6_g7_2 g6_g7_2 k6_g7_3 g6_g7_3 k6_g8_0 g6_g8_0 k6_g8_1 g6_g8_1 k6_g8_2 g6_g8_2 k6_g8_3 g6_g8_3 k6_g9_0 g6_g9_0 k6_g9_1 g6_g9_1 k6_g9_2 g6_g9_2 k6_g9_3 g6_g9_3 k6_g10_0 g6_g10_0 k6_g10_1 g6_g10_1 k6_g10_2 g6_g10_2 k6_g10_3 g6_g10_3 B6 z6; rintro w' ⟨h0, h1, h2, h3, h4, h5, h6, h7, h8, h9, h10, h11, h12, h13, h14, h15, h16, h17, h18, h19, h20, h21, h22, h23, h24, h25, h26, h27, h28, h29, h30, h31, h32, h33, h34, h35, h36, h37, h38, h39, h40, h41, h42, h43, h44, h45, h46, h47, h48, h49, h50, h51, h52, h53, h54, h55⟩; exact cv2 _
  refine obe_val (by rfl) ?_ ?_
  · clear k6_b3_0 g6_b3_0 k6_b3_1 g6_b3_1 k6_b3_2 g6_b3_2 k6_b3_3 g6_b3_3 k6_b4_0 g6_b4_0 k6_b4_1 g6_b4_1 k6_b4_2 g6_b4_2 k6_b4_3 g6_b4_3 k6_b4_4 g6_b4_4 k6_b4_5 g6_b4_5 k6_b4_6 g6_b4_6 k6_b4_7 g6_b4_7 k6_g7_0 g6_g7_0 k6_g7_1 g6_g7_1 k6_g7_2 g6_g7_2 k6_g7_3 g6_g7_3 k6_g8_0 g6_g8_0 k6_g8_1 g6_g8_1 k6_g8_2 g6_g8_2 k6_g8_3 g6_g8_3 k6_g9_0 g6_g9_0 k6_g9_1 g6_g9_1 k6_g9_2 g6_g9_2 k6_g9_3 g6_g9_3 k6_g10_0 g6_g10_0 k6_g10_1 g6_g10_1 k6_g10_2 g6_g10_2 k6_g10_3 g6_g10_3 B6 z6; intro f hf; have u46 : f 46 = (.bool true) := (by rw [← hf]; rfl); have u51 : f 51 = (.bool true) := (by rw [← hf]; rfl); clear hf; rintro w' ⟨h0, h1, h2, h3, h4, h5, h6, h7, h8, h9, h10, h11, h12, h13, h14, h15, h16, h17, h18, h19, h20, h21, h22, h23, h24, h25, h26, h27, h28, h29, h30, h31, h32, h33, h34, h35, h36, h37, h38, h39, h40, h41, h42, h43, h44, h45, h46, h47, h48, h49, h50, h51, h52, h53, h54, h55⟩; go_simp; try exact IntWalk.i64_in _ (by omega)
  refine obe_val (by rfl) ?_ ?_
  · clear k6_b3_0 g6_b3_0 k6_b3_1 g6_b3_1 k6_b3_2 g6_b3_2 k6_b3_3 g6_b3_3 k6_b4_0 g6_b4_0 k6_b4_1 g6_b4_1 k6_b4_2 g6_b4_2 k6_b4_3 g6_b4_3 k6_b4_4 g6_b4_4 k6_b4_5 g6_b4_5 k6_b4_6 g6_b4_6 k6_b4_7 g6_b4_7 k6_g7_0 g6_g7_0 k6_g7_1 g6_g7_1 k6_g7_2 g6_g7_2 k6_g7_3 g6_g7_3 k6_g8_0 g6_g8_0 k6_g8_1 g6_g8_1 k6_g8_2 g6_g8_2 k6_g8_3 g6_g8_3 k6_g9_0 g6_g9_0 k6_g9_1 g6_g9_1 k6_g9_2 g6_g9_2 k6_g9_3 g6_g9_3 k6_g10_0 g6_g10_0 k6_g10_1 g6_g10_1 k6_g10_2 g6_g10_2 k6_g10_3 g6_g10_3 B6 z6; intro f hf; have u52 : f 52 = (.bool true) := (by rw [← hf]; rfl); clear hf; rintro w' ⟨h0, h1, h2, h3, h4, h5, h6, h7, h8, h9, h10, h11, h12, h13, h14, h15, h16, h17, h18, h19, h20, h21, h22, h23, h24, h25, h26, h27, h28, h29, h30, h31, h32, h33, h34, h35, h36, h37, h38, h39, h40, h41, h42, h43, h44, h45, h46, h47, h48, h49, h50, h51, h52, h53, h54, h55⟩; go_simp; try exact IntWalk.i64_in _ (by omega)
  refine obe_val (by rfl) ?_ ?_
  · clear k6_b3_0 g6_b3_0 k6_b3_1 g6_b3_1 k6_b3_2 g6_b3_2 k6_b3_3 g6_b3_3 k6_b4_0 g6_b4_0 k6_b4_1 g6_b4_1 k6_b4_2 g6_b4_2 k6_b4_3 g6_b4_3 k6_b4_4 g6_b4_4 k6_b4_5 g6_b4_5 k6_b4_6 g6_b4_6 k6_b4_7 g6_b4_7 k6_g7_0 g6_g7_0 k6_g7_1 g6_g7_1 k6_g7_2 g6_g7_2 k6_g7_3 g6_g7_3 k6_g8_0 g6_g8_0 k6_g8_1 g6_g8_1 k6_g8_2 g6_g8_2 k6_g8_3 g6_g8_3 k6_g9_0 g6_g9_0 k6_g9_1 g6_g9_1 k6_g9_2 g6_g9_2 k6_g9_3 g6_g9_3 k6_g10_0 g6_g10_0 k6_g10_1 g6_g10_1 k6_g10_2 g6_g10_2 k6_g10_3 g6_g10_3 B6 z6; intro f hf; have u7 : f 7 = (.pointer (some ⟨g7, 0, none⟩)) := (by rw [← hf]; rfl); clear hf; rintro w' ⟨h0, h1, h2, h3, h4, h5, h6, h7, h8, h9, h10, h11, h12, h13, h14, h15, h16, h17, h18, h19, h20, h21, h22, h23, h24, h25, h26, h27, h28, h29, h30, h31, h32, h33, h34, h35, h36, h37, h38, h39, h40, h41, h42, h43, h44, h45, h46, h47, h48, h49, h50, h51, h52, h53, h54, h55⟩; go_simp; try exact IntWalk.i64_in _ (by omega)
  refine obe_call (by rfl) ?_ ?_ ?_
  · clear k6_b3_0 g6_b3_0 k6_b3_1 g6_b3_1 k6_b3_2 g6_b3_2 k6_b3_3 g6_b3_3 k6_b4_0 g6_b4_0 k6_b4_1 g6_b4_1 k6_b4_2 g6_b4_2 k6_b4_3 g6_b4_3 k6_b4_4 g6_b4_4 k6_b4_5 g6_b4_5 k6_b4_6 g6_b4_6 k6_b4_7 g6_b4_7 k6_g7_0 g6_g7_0 k6_g7_1 g6_g7_1 k6_g7_2 g6_g7_2 k6_g7_3 g6_g7_3 k6_g8_0 g6_g8_0 k6_g8_1 g6_g8_1 k6_g8_2 g6_g8_2 k6_g8_3 g6_g8_3 k6_g9_0 g6_g9_0 k6_g9_1 g6_g9_1 k6_g9_2 g6_g9_2 k6_g9_3 g6_g9_3 k6_g10_0 g6_g10_0 k6_g10_1 g6_g10_1 k6_g10_2 g6_g10_2 k6_g10_3 g6_g10_3 B6 z6; intro f hf; have u54 : f 54 = (.agg #[.int .u8 cs, .int .u8 ct, .int .u8 cu, .int .u8 d]) := (by rw [← hf]; rfl); clear hf; intro w' _; simp only [execOp, resolve, invoke, rhoF_tmp, rhoF_func, rhoF_const, u54, List.map_toArray, List.map_cons, List.map_nil]; go_simp
  · clear k6_b3_0 g6_b3_0 k6_b3_1 g6_b3_1 k6_b3_2 g6_b3_2 k6_b3_3 g6_b3_3 k6_b4_0 g6_b4_0 k6_b4_1 g6_b4_1 k6_b4_2 g6_b4_2 k6_b4_3 g6_b4_3 k6_b4_4 g6_b4_4 k6_b4_5 g6_b4_5 k6_b4_6 g6_b4_6 k6_b4_7 g6_b4_7 k6_g7_0 g6_g7_0 k6_g7_1 g6_g7_1 k6_g7_2 g6_g7_2 k6_g7_3 g6_g7_3 k6_g8_0 g6_g8_0 k6_g8_1 g6_g8_1 k6_g8_2 g6_g8_2 k6_g8_3 g6_g8_3 k6_g9_0 g6_g9_0 k6_g9_1 g6_g9_1 k6_g9_2 g6_g9_2 k6_g9_3 g6_g9_3 k6_g10_0 g6_g10_0 k6_g10_1 g6_g10_1 k6_g10_2 g6_g10_2 k6_g10_3 g6_g10_3 B6 z6; rintro w' ⟨h0, h1, h2, h3, h4, h5, h6, h7, h8, h9, h10, h11, h12, h13, h14, h15, h16, h17, h18, h19, h20, h21, h22, h23, h24, h25, h26, h27, h28, h29, h30, h31, h32, h33, h34, h35, h36, h37, h38, h39, h40, h41, h42, h43, h44, h45, h46, h47, h48, h49, h50, h51, h52, h53, h54, h55⟩; exact cu2 _
  refine obe_call (by rfl) ?_ ?_ ?_
  · clear k6_b3_0 g6_b3_0 k6_b3_1 g6_b3_1 k6_b3_2 g6_b3_2 k6_b3_3 g6_b3_3 k6_b4_0 g6_b4_0 k6_b4_1 g6_b4_1 k6_b4_2 g6_b4_2 k6_b4_3 g6_b4_3 k6_b4_4 g6_b4_4 k6_b4_5 g6_b4_5 k6_b4_6 g6_b4_6 k6_b4_7 g6_b4_7 k6_g7_0 g6_g7_0 k6_g7_1 g6_g7_1 k6_g7_2 g6_g7_2 k6_g7_3 g6_g7_3 k6_g8_0 g6_g8_0 k6_g8_1 g6_g8_1 k6_g8_2 g6_g8_2 k6_g8_3 g6_g8_3 k6_g9_0 g6_g9_0 k6_g9_1 g6_g9_1 k6_g9_2 g6_g9_2 k6_g9_3 g6_g9_3 k6_g10_0 g6_g10_0 k6_g10_1 g6_g10_1 k6_g10_2 g6_g10_2 k6_g10_3 g6_g10_3 B6 z6; intro f hf; have u55 : f 55 = (.agg #[.int .u8 x2, .int .u8 y2, .int .u8 z2, .int .u8 d]) := (by rw [← hf]; rfl); clear hf; intro w' _; simp only [execOp, resolve, invoke, rhoF_tmp, rhoF_func, rhoF_const, u55, List.map_toArray, List.map_cons, List.map_nil]; go_simp
  · clear k6_b3_0 g6_b3_0 k6_b3_1 g6_b3_1 k6_b3_2 g6_b3_2 k6_b3_3 g6_b3_3 k6_b4_0 g6_b4_0 k6_b4_1 g6_b4_1 k6_b4_2 g6_b4_2 k6_b4_3 g6_b4_3 k6_b4_4 g6_b4_4 k6_b4_5 g6_b4_5 k6_b4_6 g6_b4_6 k6_b4_7 g6_b4_7 k6_g7_0 g6_g7_0 k6_g7_1 g6_g7_1 k6_g7_2 g6_g7_2 k6_g7_3 g6_g7_3 k6_g8_0 g6_g8_0 k6_g8_1 g6_g8_1 k6_g8_2 g6_g8_2 k6_g8_3 g6_g8_3 k6_g9_0 g6_g9_0 k6_g9_1 g6_g9_1 k6_g9_2 g6_g9_2 k6_g9_3 g6_g9_3 k6_g10_0 g6_g10_0 k6_g10_1 g6_g10_1 k6_g10_2 g6_g10_2 k6_g10_3 g6_g10_3 B6 z6; rintro w' ⟨h0, h1, h2, h3, h4, h5, h6, h7, h8, h9, h10, h11, h12, h13, h14, h15, h16, h17, h18, h19, h20, h21, h22, h23, h24, h25, h26, h27, h28, h29, h30, h31, h32, h33, h34, h35, h36, h37, h38, h39, h40, h41, h42, h43, h44, h45, h46, h47, h48, h49, h50, h51, h52, h53, h54, h55⟩; exact cp2 _
  refine obe_val (by rfl) ?_ ?_
  · clear k6_b3_0 g6_b3_0 k6_b3_1 g6_b3_1 k6_b3_2 g6_b3_2 k6_b3_3 g6_b3_3 k6_b4_0 g6_b4_0 k6_b4_1 g6_b4_1 k6_b4_2 g6_b4_2 k6_b4_3 g6_b4_3 k6_b4_4 g6_b4_4 k6_b4_5 g6_b4_5 k6_b4_6 g6_b4_6 k6_b4_7 g6_b4_7 k6_g7_0 g6_g7_0 k6_g7_1 g6_g7_1 k6_g7_2 g6_g7_2 k6_g7_3 g6_g7_3 k6_g8_0 g6_g8_0 k6_g8_1 g6_g8_1 k6_g8_2 g6_g8_2 k6_g8_3 g6_g8_3 k6_g9_0 g6_g9_0 k6_g9_1 g6_g9_1 k6_g9_2 g6_g9_2 k6_g9_3 g6_g9_3 k6_g10_0 g6_g10_0 k6_g10_1 g6_g10_1 k6_g10_2 g6_g10_2 k6_g10_3 g6_g10_3 B6 z6; intro f hf; have u7 : f 7 = (.pointer (some ⟨g7, 0, none⟩)) := (by rw [← hf]; rfl); clear hf; rintro w' ⟨h0, h1, h2, h3, h4, h5, h6, h7, h8, h9, h10, h11, h12, h13, h14, h15, h16, h17, h18, h19, h20, h21, h22, h23, h24, h25, h26, h27, h28, h29, h30, h31, h32, h33, h34, h35, h36, h37, h38, h39, h40, h41, h42, h43, h44, h45, h46, h47, h48, h49, h50, h51, h52, h53, h54, h55⟩; go_simp; try exact IntWalk.i64_in _ (by omega)
  refine obe_val (by rfl) ?_ ?_
  · clear k6_b3_0 g6_b3_0 k6_b3_1 g6_b3_1 k6_b3_2 g6_b3_2 k6_b3_3 g6_b3_3 k6_b4_0 g6_b4_0 k6_b4_1 g6_b4_1 k6_b4_2 g6_b4_2 k6_b4_3 g6_b4_3 k6_b4_4 g6_b4_4 k6_b4_5 g6_b4_5 k6_b4_6 g6_b4_6 k6_b4_7 g6_b4_7 k6_g7_0 g6_g7_0 k6_g7_1 g6_g7_1 k6_g7_2 g6_g7_2 k6_g7_3 g6_g7_3 k6_g8_0 g6_g8_0 k6_g8_1 g6_g8_1 k6_g8_2 g6_g8_2 k6_g8_3 g6_g8_3 k6_g9_0 g6_g9_0 k6_g9_1 g6_g9_1 k6_g9_2 g6_g9_2 k6_g9_3 g6_g9_3 k6_g10_0 g6_g10_0 k6_g10_1 g6_g10_1 k6_g10_2 g6_g10_2 k6_g10_3 g6_g10_3 B6 z6; intro f hf; have u56 : f 56 = (.agg #[.int .u8 cs, .int .u8 ct, .int .u8 cu, .int .u8 d]) := (by rw [← hf]; rfl); have u57 : f 57 = (.agg #[.int .u8 cs, .int .u8 ct, .int .u8 cu, .int .u8 d]) := (by rw [← hf]; rfl); clear hf; rintro w' ⟨h0, h1, h2, h3, h4, h5, h6, h7, h8, h9, h10, h11, h12, h13, h14, h15, h16, h17, h18, h19, h20, h21, h22, h23, h24, h25, h26, h27, h28, h29, h30, h31, h32, h33, h34, h35, h36, h37, h38, h39, h40, h41, h42, h43, h44, h45, h46, h47, h48, h49, h50, h51, h52, h53, h54, h55⟩; go_simp; try exact IntWalk.i64_in _ (by omega)
  refine obe_val (by rfl) ?_ ?_
  · clear k6_b3_0 g6_b3_0 k6_b3_1 g6_b3_1 k6_b3_2 g6_b3_2 k6_b3_3 g6_b3_3 k6_b4_0 g6_b4_0 k6_b4_1 g6_b4_1 k6_b4_2 g6_b4_2 k6_b4_3 g6_b4_3 k6_b4_4 g6_b4_4 k6_b4_5 g6_b4_5 k6_b4_6 g6_b4_6 k6_b4_7 g6_b4_7 k6_g7_0 g6_g7_0 k6_g7_1 g6_g7_1 k6_g7_2 g6_g7_2 k6_g7_3 g6_g7_3 k6_g8_0 g6_g8_0 k6_g8_1 g6_g8_1 k6_g8_2 g6_g8_2 k6_g8_3 g6_g8_3 k6_g9_0 g6_g9_0 k6_g9_1 g6_g9_1 k6_g9_2 g6_g9_2 k6_g9_3 g6_g9_3 k6_g10_0 g6_g10_0 k6_g10_1 g6_g10_1 k6_g10_2 g6_g10_2 k6_g10_3 g6_g10_3 B6 z6; intro f hf; have u53 : f 53 = (.bool true) := (by rw [← hf]; rfl); have u58 : f 58 = (.bool true) := (by rw [← hf]; rfl); clear hf; rintro w' ⟨h0, h1, h2, h3, h4, h5, h6, h7, h8, h9, h10, h11, h12, h13, h14, h15, h16, h17, h18, h19, h20, h21, h22, h23, h24, h25, h26, h27, h28, h29, h30, h31, h32, h33, h34, h35, h36, h37, h38, h39, h40, h41, h42, h43, h44, h45, h46, h47, h48, h49, h50, h51, h52, h53, h54, h55⟩; go_simp; try exact IntWalk.i64_in _ (by omega)
  refine obe_val (by rfl) ?_ ?_
  · clear k6_b3_0 g6_b3_0 k6_b3_1 g6_b3_1 k6_b3_2 g6_b3_2 k6_b3_3 g6_b3_3 k6_b4_0 g6_b4_0 k6_b4_1 g6_b4_1 k6_b4_2 g6_b4_2 k6_b4_3 g6_b4_3 k6_b4_4 g6_b4_4 k6_b4_5 g6_b4_5 k6_b4_6 g6_b4_6 k6_b4_7 g6_b4_7 k6_g7_0 g6_g7_0 k6_g7_1 g6_g7_1 k6_g7_2 g6_g7_2 k6_g7_3 g6_g7_3 k6_g8_0 g6_g8_0 k6_g8_1 g6_g8_1 k6_g8_2 g6_g8_2 k6_g8_3 g6_g8_3 k6_g9_0 g6_g9_0 k6_g9_1 g6_g9_1 k6_g9_2 g6_g9_2 k6_g9_3 g6_g9_3 k6_g10_0 g6_g10_0 k6_g10_1 g6_g10_1 k6_g10_2 g6_g10_2 k6_g10_3 g6_g10_3 B6 z6; intro f hf; have u59 : f 59 = (.bool true) := (by rw [← hf]; rfl); clear hf; rintro w' ⟨h0, h1, h2, h3, h4, h5, h6, h7, h8, h9, h10, h11, h12, h13, h14, h15, h16, h17, h18, h19, h20, h21, h22, h23, h24, h25, h26, h27, h28, h29, h30, h31, h32, h33, h34, h35, h36, h37, h38, h39, h40, h41, h42, h43, h44, h45, h46, h47, h48, h49, h50, h51, h52, h53, h54, h55⟩; go_simp; try exact IntWalk.i64_in _ (by omega)
  refine obe_call (by rfl) ?_ ?_ ?_
  · clear k6_b3_0 g6_b3_0 k6_b3_1 g6_b3_1 k6_b3_2 g6_b3_2 k6_b3_3 g6_b3_3 k6_b4_0 g6_b4_0 k6_b4_1 g6_b4_1 k6_b4_2 g6_b4_2 k6_b4_3 g6_b4_3 k6_b4_4 g6_b4_4 k6_b4_5 g6_b4_5 k6_b4_6 g6_b4_6 k6_b4_7 g6_b4_7 k6_g7_0 g6_g7_0 k6_g7_1 g6_g7_1 k6_g7_2 g6_g7_2 k6_g7_3 g6_g7_3 k6_g8_0 g6_g8_0 k6_g8_1 g6_g8_1 k6_g8_2 g6_g8_2 k6_g8_3 g6_g8_3 k6_g9_0 g6_g9_0 k6_g9_1 g6_g9_1 k6_g9_2 g6_g9_2 k6_g9_3 g6_g9_3 k6_g10_0 g6_g10_0 k6_g10_1 g6_g10_1 k6_g10_2 g6_g10_2 k6_g10_3 g6_g10_3 B6 z6; intro f hf; clear hf; intro w' _; simp only [execOp, resolve, invoke, rhoF_tmp, rhoF_func, rhoF_const, List.map_toArray, List.map_cons, List.map_nil]; go_simp
  · clear k6_b3_0 g6_b3_0 k6_b3_1 g6_b3_1 k6_b3_2 g6_b3_2 k6_b3_3 g6_b3_3 k6_b4_0 g6_b4_0 k6_b4_1 g6_b4_1 k6_b4_2 g6_b4_2 k6_b4_3 g6_b4_3 k6_b4_4 g6_b4_4 k6_b4_5 g6_b4_5 k6_b4_6 g6_b4_6 k6_b4_7 g6_b4_7 k6_g7_0 g6_g7_0 k6_g7_1 g6_g7_1 k6_g7_2 g6_g7_2 k6_g7_3 g6_g7_3 k6_g8_0 g6_g8_0 k6_g8_1 g6_g8_1 k6_g8_2 g6_g8_2 k6_g8_3 g6_g8_3 k6_g9_0 g6_g9_0 k6_g9_1 g6_g9_1 k6_g9_2 g6_g9_2 k6_g9_3 g6_g9_3 k6_g10_0 g6_g10_0 k6_g10_1 g6_g10_1 k6_g10_2 g6_g10_2 k6_g10_3 g6_g10_3 B6 z6; rintro w' ⟨h0, h1, h2, h3, h4, h5, h6, h7, h8, h9, h10, h11, h12, h13, h14, h15, h16, h17, h18, h19, h20, h21, h22, h23, h24, h25, h26, h27, h28, h29, h30, h31, h32, h33, h34, h35, h36, h37, h38, h39, h40, h41, h42, h43, h44, h45, h46, h47, h48, h49, h50, h51, h52, h53, h54, h55⟩; exact cex_any _
  refine obe_val (by rfl) ?_ ?_
  · clear k6_b3_0 g6_b3_0 k6_b3_1 g6_b3_1 k6_b3_2 g6_b3_2 k6_b3_3 g6_b3_3 k6_b4_0 g6_b4_0 k6_b4_1 g6_b4_1 k6_b4_2 g6_b4_2 k6_b4_3 g6_b4_3 k6_b4_4 g6_b4_4 k6_b4_5 g6_b4_5 k6_b4_6 g6_b4_6 k6_b4_7 g6_b4_7 k6_g7_0 g6_g7_0 k6_g7_1 g6_g7_1 k6_g7_2 g6_g7_2 k6_g7_3 g6_g7_3 k6_g8_0 g6_g8_0 k6_g8_1 g6_g8_1 k6_g8_2 g6_g8_2 k6_g8_3 g6_g8_3 k6_g9_0 g6_g9_0 k6_g9_1 g6_g9_1 k6_g9_2 g6_g9_2 k6_g9_3 g6_g9_3 k6_g10_0 g6_g10_0 k6_g10_1 g6_g10_1 k6_g10_2 g6_g10_2 k6_g10_3 g6_g10_3 B6 z6; intro f hf; have u60 : f 60 = (.bool true) := (by rw [← hf]; rfl); have u61 : f 61 = (.bool true) := (by rw [← hf]; rfl); clear hf; rintro w' ⟨h0, h1, h2, h3, h4, h5, h6, h7, h8, h9, h10, h11, h12, h13, h14, h15, h16, h17, h18, h19, h20, h21, h22, h23, h24, h25, h26, h27, h28, h29, h30, h31, h32, h33, h34, h35, h36, h37, h38, h39, h40, h41, h42, h43, h44, h45, h46, h47, h48, h49, h50, h51, h52, h53, h54, h55⟩; go_simp; try exact IntWalk.i64_in _ (by omega)
  refine obe_val (by rfl) ?_ ?_
  · clear k6_b3_0 g6_b3_0 k6_b3_1 g6_b3_1 k6_b3_2 g6_b3_2 k6_b3_3 g6_b3_3 k6_b4_0 g6_b4_0 k6_b4_1 g6_b4_1 k6_b4_2 g6_b4_2 k6_b4_3 g6_b4_3 k6_b4_4 g6_b4_4 k6_b4_5 g6_b4_5 k6_b4_6 g6_b4_6 k6_b4_7 g6_b4_7 k6_g7_0 g6_g7_0 k6_g7_1 g6_g7_1 k6_g7_2 g6_g7_2 k6_g7_3 g6_g7_3 k6_g8_0 g6_g8_0 k6_g8_1 g6_g8_1 k6_g8_2 g6_g8_2 k6_g8_3 g6_g8_3 k6_g9_0 g6_g9_0 k6_g9_1 g6_g9_1 k6_g9_2 g6_g9_2 k6_g9_3 g6_g9_3 k6_g10_0 g6_g10_0 k6_g10_1 g6_g10_1 k6_g10_2 g6_g10_2 k6_g10_3 g6_g10_3 B6 z6; intro f hf; have u62 : f 62 = (.bool true) := (by rw [← hf]; rfl); clear hf; rintro w' ⟨h0, h1, h2, h3, h4, h5, h6, h7, h8, h9, h10, h11, h12, h13, h14, h15, h16, h17, h18, h19, h20, h21, h22, h23, h24, h25, h26, h27, h28, h29, h30, h31, h32, h33, h34, h35, h36, h37, h38, h39, h40, h41, h42, h43, h44, h45, h46, h47, h48, h49, h50, h51, h52, h53, h54, h55⟩; go_simp; try exact IntWalk.i64_in _ (by omega)
  refine obe_nil ?_
  rintro w7 ⟨h0, h1, h2, h3, h4, h5, h6, h7, h8, h9, h10, h11, h12, h13, h14, h15, h16, h17, h18, h19, h20, h21, h22, h23, h24, h25, h26, h27, h28, h29, h30, h31, h32, h33, h34, h35, h36, h37, h38, h39, h40, h41, h42, h43, h44, h45, h46, h47, h48, h49, h50, h51, h52, h53, h54, h55⟩ hb7 hF
  (try simp only [List.nil_append, List.append_nil, List.cons_append] at hF)
  simp only [puts, putD, Act.put, List.setIfInBounds_toArray, List.set_cons_zero, List.set_cons_succ]
  clear hF
  have k7_b3_0 := bcs hb7 k6_b3_0
  have g7_b3_0 := bfs hb7 k6_b3_0 g6_b3_0
  have k7_b3_1 := bcs hb7 k6_b3_1
  have g7_b3_1 := bfs hb7 k6_b3_1 g6_b3_1
  have k7_b3_2 := bcs hb7 k6_b3_2
  have g7_b3_2 := bfs hb7 k6_b3_2 g6_b3_2
  have k7_b3_3 := bcs hb7 k6_b3_3
  have g7_b3_3 := bfs hb7 k6_b3_3 g6_b3_3
  have k7_b4_0 := bcs hb7 k6_b4_0
  have g7_b4_0 := bfs hb7 k6_b4_0 g6_b4_0
  have k7_b4_1 := bcs hb7 k6_b4_1
  have g7_b4_1 := bfs hb7 k6_b4_1 g6_b4_1
  have k7_b4_2 := bcs hb7 k6_b4_2
  have g7_b4_2 := bfs hb7 k6_b4_2 g6_b4_2
  have k7_b4_3 := bcs hb7 k6_b4_3
  have g7_b4_3 := bfs hb7 k6_b4_3 g6_b4_3
  have k7_b4_4 := bcs hb7 k6_b4_4
  have g7_b4_4 := bfs hb7 k6_b4_4 g6_b4_4
  have k7_b4_5 := bcs hb7 k6_b4_5
  have g7_b4_5 := bfs hb7 k6_b4_5 g6_b4_5
  have k7_b4_6 := bcs hb7 k6_b4_6
  have g7_b4_6 := bfs hb7 k6_b4_6 g6_b4_6
  have k7_b4_7 := bcs hb7 k6_b4_7
  have g7_b4_7 := bfs hb7 k6_b4_7 g6_b4_7
  have k7_g7_0 := bcs hb7 k6_g7_0
  have g7_g7_0 := bfs hb7 k6_g7_0 g6_g7_0
  have k7_g7_1 := bcs hb7 k6_g7_1
  have g7_g7_1 := bfs hb7 k6_g7_1 g6_g7_1
  have k7_g7_2 := bcs hb7 k6_g7_2
  have g7_g7_2 := bfs hb7 k6_g7_2 g6_g7_2
  have k7_g7_3 := bcs hb7 k6_g7_3
  have g7_g7_3 := bfs hb7 k6_g7_3 g6_g7_3
  have k7_g8_0 := bcs hb7 k6_g8_0
  have g7_g8_0 := bfs hb7 k6_g8_0 g6_g8_0
  have k7_g8_1 := bcs hb7 k6_g8_1
  have g7_g8_1 := bfs hb7 k6_g8_1 g6_g8_1
  have k7_g8_2 := bcs hb7 k6_g8_2
  have g7_g8_2 := bfs hb7 k6_g8_2 g6_g8_2
  have k7_g8_3 := bcs hb7 k6_g8_3
  have g7_g8_3 := bfs hb7 k6_g8_3 g6_g8_3
  have k7_g9_0 := bcs hb7 k6_g9_0
  have g7_g9_0 := bfs hb7 k6_g9_0 g6_g9_0
  have k7_g9_1 := bcs hb7 k6_g9_1
  have g7_g9_1 := bfs hb7 k6_g9_1 g6_g9_1
  have k7_g9_2 := bcs hb7 k6_g9_2
  have g7_g9_2 := bfs hb7 k6_g9_2 g6_g9_2
  have k7_g9_3 := bcs hb7 k6_g9_3
  have g7_g9_3 := bfs hb7 k6_g9_3 g6_g9_3
  have k7_g10_0 := bcs hb7 k6_g10_0
  have g7_g10_0 := bfs hb7 k6_g10_0 g6_g10_0
  have k7_g10_1 := bcs hb7 k6_g10_1
  have g7_g10_1 := bfs hb7 k6_g10_1 g6_g10_1
  have k7_g10_2 := bcs hb7 k6_g10_2
  have g7_g10_2 := bfs hb7 k6_g10_2 g6_g10_2
  have k7_g10_3 := bcs hb7 k6_g10_3
  have g7_g10_3 := bfs hb7 k6_g10_3 g6_g10_3
  clear h0 h1 h2 h3 h4 h5 h6 h7 h8 h9 h10 h11 h12 h13 h14 h15 h16 h17 h18 h19 h20 h21 h22 h23 h24 h25 h26 h27 h28 h29 h30 h31 h32 h33 h34 h35 h36 h37 h38 h39 h40 h41 h42 h43 h44 h45 h46 h47 h48 h49 h50 h51 h52 h53 h54 h55
  have B7 := bel_step B6 hb7
  have z7 := Nat.le_trans z6 hb7.size
  clear hb7
  (try clear B6)
  (try clear z6)
  (try clear k6_b3_0)
  (try clear g6_b3_0)
  (try clear k6_b3_1)
  (try clear g6_b3_1)
  (try clear k6_b3_2)
  (try clear g6_b3_2)
  (try clear k6_b3_3)
  (try clear g6_b3_3)
  (try clear k6_b4_0)
  (try clear g6_b4_0)
  (try clear k6_b4_1)
  (try clear g6_b4_1)
  (try clear k6_b4_2)
  (try clear g6_b4_2)
  (try clear k6_b4_3)
  (try clear g6_b4_3)
  (try clear k6_b4_4)
  (try clear g6_b4_4)
  (try clear k6_b4_5)
  (try clear g6_b4_5)
  (try clear k6_b4_6)
  (try clear g6_b4_6)
  (try clear k6_b4_7)
  (try clear g6_b4_7)
  (try clear k6_g7_0)
  (try clear g6_g7_0)
  (try clear k6_g7_1)
  (try clear g6_g7_1)
  (try clear k6_g7_2)
  (try clear g6_g7_2)
  (try clear k6_g7_3)
  (try clear g6_g7_3)
  (try clear k6_g8_0)
  (try clear g6_g8_0)
  (try clear k6_g8_1)
  (try clear g6_g8_1)
  (try clear k6_g8_2)
  (try clear g6_g8_2)
  (try clear k6_g8_3)
  (try clear g6_g8_3)
  (try clear k6_g9_0)
  (try clear g6_g9_0)
  (try clear k6_g9_1)
  (try clear g6_g9_1)
  (try clear k6_g9_2)
  (try clear g6_g9_2)
  (try clear k6_g9_3)
  (try clear g6_g9_3)
  (try clear k6_g10_0)
  (try clear g6_g10_0)
  (try clear k6_g10_1)
  (try clear g6_g10_1)
  (try clear k6_g10_2)
  (try clear g6_g10_2)
  (try clear k6_g10_3)
  (try clear g6_g10_3)
  (try clear q6_b3)
  (try clear x6_b3)
  (try clear y6_b3)
  (try clear q6_b4)
  (try clear x6_b4)
  (try clear y6_b4)
  (try clear q6_g7)
  (try clear x6_g7)
  (try clear y6_g7)
  (try clear q6_g8)
  (try clear x6_g8)
  (try clear y6_g8)
  (try clear q6_g9)
  (try clear x6_g9)
  (try clear y6_g9)
  (try clear q6_g10)
  (try clear x6_g10)
  (try clear y6_g10)
  have q7_b3 : w.heap.size < w7.heap.size := qlt k7_b3_0
  have x7_b3 : ¬ w.heap.size = w7.heap.size := qne k7_b3_0
  have y7_b3 : ¬ w7.heap.size = w.heap.size := fun h => qne k7_b3_0 h.symm
  have q7_b4 : w.heap.size + 1 < w7.heap.size := qlt k7_b4_0
  have x7_b4 : ¬ w.heap.size + 1 = w7.heap.size := qne k7_b4_0
  have y7_b4 : ¬ w7.heap.size = w.heap.size + 1 := fun h => qne k7_b4_0 h.symm
  have q7_g7 : g7 < w7.heap.size := qlt k7_g7_0
  have x7_g7 : ¬ g7 = w7.heap.size := qne k7_g7_0
  have y7_g7 : ¬ w7.heap.size = g7 := fun h => qne k7_g7_0 h.symm
  have q7_g8 : g8 < w7.heap.size := qlt k7_g8_0
  have x7_g8 : ¬ g8 = w7.heap.size := qne k7_g8_0
  have y7_g8 : ¬ w7.heap.size = g8 := fun h => qne k7_g8_0 h.symm
  have q7_g9 : w3.heap.size < w7.heap.size := qlt k7_g9_0
  have x7_g9 : ¬ w3.heap.size = w7.heap.size := qne k7_g9_0
  have y7_g9 : ¬ w7.heap.size = w3.heap.size := fun h => qne k7_g9_0 h.symm
  have q7_g10 : w5.heap.size < w7.heap.size := qlt k7_g10_0
  have x7_g10 : ¬ w5.heap.size = w7.heap.size := qne k7_g10_0
  have y7_g10 : ¬ w7.heap.size = w5.heap.size := fun h => qne k7_g10_0 h.symm
  unfold wpList
  go_wp2
  go_ret
  refine ⟨rfl, ?_⟩
  repeat (first | with_reducible exact Below.refl _ _ | with_reducible exact B7 | with_reducible apply below_drewN | with_reducible apply Below.drew | (with_reducible refine Below.alloc ?_ (by first | (simp; done) | (simp; omega) | omega) _) | (with_reducible refine Below.setCell ?_ (by first | (simp; done) | (simp; omega) | omega) _))
end Go.Proofs.Ytfaiogomhjmhhaa
