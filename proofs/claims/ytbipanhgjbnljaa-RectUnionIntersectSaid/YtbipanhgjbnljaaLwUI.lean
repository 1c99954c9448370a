import Derived.Test.YtbipanhgjbnljaaRex
import Derived.Test.YtbipanhgjbnljaaR6
import Derived.Test.YtbipanhgjbnljaaR7
import Derived.Test.YtbipanhgjbnljaaR8
import Derived.Test.YtbipanhgjbnljaaRectNum3
import Derived.WalkKit
import Derived.WalkSpells
import Derived.WalkLawsBesides
import Derived.Lib.Hide
import Derived.Below
import Derived.Deep.QuietTactic
import Derived.BigQuiet
import Derived.Deep.RegionHeld3
import Derived.Deep.DrawnRows
import Derived.Deep.DeepFit
import Derived.IntWalk
namespace Go.Proofs.Ytbipanhgjbnljaa
open Go.RowKit
set_option linter.unusedVariables false
set_option linter.unusedSimpArgs false
attribute [local go_sem ↓] Go.wp_at_zero Go.wp_at_succ
attribute [local go_sem] rhoF_tmp rhoF_const rhoF_global rhoF_func
theorem and_bd (n : Int) : 0 ≤ bits .and .i64 n 4095 ∧ bits .and .i64 n 4095 ≤ 4095 := by
  have h : (BitVec.ofInt 64 n &&& BitVec.ofInt 64 4095).toNat ≤ 4095 := by rw [BitVec.toNat_and]; exact Nat.and_le_right
  have e : bits .and .i64 n 4095 = IntKind.i64.wrap ((BitVec.ofInt 64 n &&& BitVec.ofInt 64 4095).toNat : Int) := rfl
  rw [e]
  have hw : IntKind.i64.wrap ((BitVec.ofInt 64 n &&& BitVec.ofInt 64 4095).toNat : Int) = ((BitVec.ofInt 64 n &&& BitVec.ofInt 64 4095).toNat : Int) := IntWalk.i64_in _ (by omega)
  rw [hw]; omega

set_option maxRecDepth 20000 in
set_option maxHeartbeats 8000000 in
theorem rectUI_w (a b c d s t u v n : Int) (w : World) :
    Calls Try.prog 7 #[.agg #[.int .i64 a, .int .i64 b, .int .i64 c, .int .i64 d], .agg #[.int .i64 s, .int .i64 t, .int .i64 u, .int .i64 v], .int .i64 n] w fun e w' => e = .returned (.bool true) ∧ Below w.heap.size w w' := by
  obtain ⟨m0, j0⟩ : ∃ x, max (cn (eR a b c d) a) (cn (eR s t u v) s) = x := ⟨_, rfl⟩
  obtain ⟨m1, j1⟩ : ∃ x, max (cn (eR a b c d) b) (cn (eR s t u v) t) = x := ⟨_, rfl⟩
  obtain ⟨m2, j2⟩ : ∃ x, min (cn (eR a b c d) c) (cn (eR s t u v) u) = x := ⟨_, rfl⟩
  obtain ⟨m3, j3⟩ : ∃ x, min (cn (eR a b c d) d) (cn (eR s t u v) v) = x := ⟨_, rfl⟩
  have ci := fun w => intersect_any a b c d s t u v m0 m1 m2 m3 j0 j1 j2 j3 w
  have ci2 := fun w => intersect_any s t u v a b c d m0 m1 m2 m3 (by omega) (by omega) (by omega) (by omega) w
  obtain ⟨l0, l1⟩ := in_left a b c d s t u v m0 m1 m2 m3 j0 j1 j2 j3
  have l2 := in_union a b c d s t u v
  have l3 := in_union2 a b c d s t u v
  have cu := fun w => union_any a b c d s t u v w
  have cu2 := fun w => union_any s t u v a b c d w
  rw [uLo_comm (eR s t u v) (eR a b c d) s a, uLo_comm (eR s t u v) (eR a b c d) t b, uHi_comm (eR s t u v) (eR a b c d) u c, uHi_comm (eR s t u v) (eR a b c d) v d] at cu2
  clear j0 j1 j2 j3
  obtain ⟨M0, y0⟩ : ∃ x, cn (eR m0 m1 m2 m3) m0 = x := ⟨_, rfl⟩
  obtain ⟨M1, y1⟩ : ∃ x, cn (eR m0 m1 m2 m3) m1 = x := ⟨_, rfl⟩
  obtain ⟨M2, y2⟩ : ∃ x, cn (eR m0 m1 m2 m3) m2 = x := ⟨_, rfl⟩
  obtain ⟨M3, y3⟩ : ∃ x, cn (eR m0 m1 m2 m3) m3 = x := ⟨_, rfl⟩
  rw [y0, y1, y2, y3] at ci ci2 l0 l1
  clear y0 y1 y2 y3
  obtain ⟨U0, y0⟩ : ∃ x, uLo (eR a b c d) (eR s t u v) a s = x := ⟨_, rfl⟩
  obtain ⟨U1, y1⟩ : ∃ x, uLo (eR a b c d) (eR s t u v) b t = x := ⟨_, rfl⟩
  obtain ⟨U2, y2⟩ : ∃ x, uHi (eR a b c d) (eR s t u v) c u = x := ⟨_, rfl⟩
  obtain ⟨U3, y3⟩ : ∃ x, uHi (eR a b c d) (eR s t u v) d v = x := ⟨_, rfl⟩
  rw [y0, y1, y2, y3] at cu cu2 l2 l3
  clear y0 y1 y2 y3
  have cw0 := fun w => within_any M0 M1 M2 M3 a b c d w
  have cw1 := fun w => within_any M0 M1 M2 M3 s t u v w
  have cw2 := fun w => within_any a b c d U0 U1 U2 U3 w
  have cw3 := fun w => within_any s t u v U0 U1 U2 U3 w
  rw [l0] at cw0
  rw [l1] at cw1
  rw [l2] at cw2
  rw [l3] at cw3
  clear l0 l1 l2 l3
  obtain ⟨n0, n1⟩ := and_bd n
  obtain ⟨nn, hnn⟩ : ∃ x, bits .and .i64 n 4095 = x := ⟨_, rfl⟩
  rw [hnn] at n0 n1
  obtain ⟨o0, p0⟩ : ∃ x, max (-4096) (min (a - nn) 4096) = x := ⟨_, rfl⟩
  obtain ⟨o1, p1⟩ : ∃ x, max (-4096) (min (b - nn) 4096) = x := ⟨_, rfl⟩
  obtain ⟨o2, p2⟩ : ∃ x, max (-4096) (min (c + nn) 4096) = x := ⟨_, rfl⟩
  obtain ⟨o3, p3⟩ : ∃ x, max (-4096) (min (d + nn) 4096) = x := ⟨_, rfl⟩
  have co := fun w => outset_any a b c d nn nn o0 o1 o2 o3 (by omega) p0 p1 p2 p3 w
  have l4 := in_out a b c d nn o0 o1 o2 o3 n0 n1 p0 p1 p2 p3
  obtain ⟨G0, y0⟩ : ∃ x, cn (eR a b c d) (cn (eR o0 o1 o2 o3) o0) = x := ⟨_, rfl⟩
  obtain ⟨G1, y1⟩ : ∃ x, cn (eR a b c d) (cn (eR o0 o1 o2 o3) o1) = x := ⟨_, rfl⟩
  obtain ⟨G2, y2⟩ : ∃ x, cn (eR a b c d) (cn (eR o0 o1 o2 o3) o2) = x := ⟨_, rfl⟩
  obtain ⟨G3, y3⟩ : ∃ x, cn (eR a b c d) (cn (eR o0 o1 o2 o3) o3) = x := ⟨_, rfl⟩
  rw [y0, y1, y2, y3] at co l4
  obtain ⟨r0, q0⟩ : ∃ x, max (-4096) (min (G0 - -nn) 4096) = x := ⟨_, rfl⟩
  obtain ⟨r1, q1⟩ : ∃ x, max (-4096) (min (G1 - -nn) 4096) = x := ⟨_, rfl⟩
  obtain ⟨r2, q2⟩ : ∃ x, max (-4096) (min (G2 + -nn) 4096) = x := ⟨_, rfl⟩
  obtain ⟨r3, q3⟩ : ∃ x, max (-4096) (min (G3 + -nn) 4096) = x := ⟨_, rfl⟩
  have cp := fun w => outset_any G0 G1 G2 G3 (-nn) (-nn) r0 r1 r2 r3 (by omega) q0 q1 q2 q3 w
  have l5 := in_back a b c d nn o0 o1 o2 o3 G0 G1 G2 G3 r0 r1 r2 r3 n0 n1 p0 p1 p2 p3 y0 y1 y2 y3 q0 q1 q2 q3
  clear y0 y1 y2 y3 q0 q1 q2 q3 p0 p1 p2 p3
  obtain ⟨P0, y0⟩ : ∃ x, cn (eR G0 G1 G2 G3) (cn (eR r0 r1 r2 r3) r0) = x := ⟨_, rfl⟩
  obtain ⟨P1, y1⟩ : ∃ x, cn (eR G0 G1 G2 G3) (cn (eR r0 r1 r2 r3) r1) = x := ⟨_, rfl⟩
  obtain ⟨P2, y2⟩ : ∃ x, cn (eR G0 G1 G2 G3) (cn (eR r0 r1 r2 r3) r2) = x := ⟨_, rfl⟩
  obtain ⟨P3, y3⟩ : ∃ x, cn (eR G0 G1 G2 G3) (cn (eR r0 r1 r2 r3) r3) = x := ⟨_, rfl⟩
  rw [y0, y1, y2, y3] at cp l5
  clear y0 y1 y2 y3
  obtain ⟨t0, q0⟩ : ∃ x, max (-4096) (min (a - -nn) 4096) = x := ⟨_, rfl⟩
  obtain ⟨t1, q1⟩ : ∃ x, max (-4096) (min (b - -nn) 4096) = x := ⟨_, rfl⟩
  obtain ⟨t2, q2⟩ : ∃ x, max (-4096) (min (c + -nn) 4096) = x := ⟨_, rfl⟩
  obtain ⟨t3, q3⟩ : ∃ x, max (-4096) (min (d + -nn) 4096) = x := ⟨_, rfl⟩
  have cq := fun w => outset_any a b c d (-nn) (-nn) t0 t1 t2 t3 (by omega) q0 q1 q2 q3 w
  have l6 := in_in a b c d nn t0 t1 t2 t3 n0 n1 q0 q1 q2 q3
  clear q0 q1 q2 q3
  obtain ⟨Q0, y0⟩ : ∃ x, cn (eR a b c d) (cn (eR t0 t1 t2 t3) t0) = x := ⟨_, rfl⟩
  obtain ⟨Q1, y1⟩ : ∃ x, cn (eR a b c d) (cn (eR t0 t1 t2 t3) t1) = x := ⟨_, rfl⟩
  obtain ⟨Q2, y2⟩ : ∃ x, cn (eR a b c d) (cn (eR t0 t1 t2 t3) t2) = x := ⟨_, rfl⟩
  obtain ⟨Q3, y3⟩ : ∃ x, cn (eR a b c d) (cn (eR t0 t1 t2 t3) t3) = x := ⟨_, rfl⟩
  rw [y0, y1, y2, y3] at cq l6
  clear y0 y1 y2 y3
  have cw4 := fun w => within_any a b c d G0 G1 G2 G3 w
  have cw5 := fun w => within_any P0 P1 P2 P3 a b c d w
  have cw6 := fun w => within_any Q0 Q1 Q2 Q3 a b c d w
  rw [l4] at cw4
  rw [l5] at cw5
  rw [l6] at cw6
  clear l4 l5 l6
  go_enter Try.func7, Try.ntmps7
  go_wp2
  refine wp_region_env (fun w' => w'.cell? ⟨w.heap.size, 0, none⟩ = some (.int .i64 a) ∧ w'.frozen? ⟨w.heap.size, 0, none⟩ = false ∧ w'.cell? ⟨w.heap.size, 1, none⟩ = some (.int .i64 b) ∧ w'.frozen? ⟨w.heap.size, 1, none⟩ = false ∧ w'.cell? ⟨w.heap.size, 2, none⟩ = some (.int .i64 c) ∧ w'.frozen? ⟨w.heap.size, 2, none⟩ = false ∧ w'.cell? ⟨w.heap.size, 3, none⟩ = some (.int .i64 d) ∧ w'.frozen? ⟨w.heap.size, 3, none⟩ = false ∧ w'.cell? ⟨w.heap.size + 1, 0, none⟩ = some (.int .i64 s) ∧ w'.frozen? ⟨w.heap.size + 1, 0, none⟩ = false ∧ w'.cell? ⟨w.heap.size + 1, 1, none⟩ = some (.int .i64 t) ∧ w'.frozen? ⟨w.heap.size + 1, 1, none⟩ = false ∧ w'.cell? ⟨w.heap.size + 1, 2, none⟩ = some (.int .i64 u) ∧ w'.frozen? ⟨w.heap.size + 1, 2, none⟩ = false ∧ w'.cell? ⟨w.heap.size + 1, 3, none⟩ = some (.int .i64 v) ∧ w'.frozen? ⟨w.heap.size + 1, 3, none⟩ = false) (fun W => W.cell? ⟨w.heap.size, 0, none⟩ = some (.int .i64 a) ∧ W.frozen? ⟨w.heap.size, 0, none⟩ = false ∧ W.cell? ⟨w.heap.size, 1, none⟩ = some (.int .i64 b) ∧ W.frozen? ⟨w.heap.size, 1, none⟩ = false ∧ W.cell? ⟨w.heap.size, 2, none⟩ = some (.int .i64 c) ∧ W.frozen? ⟨w.heap.size, 2, none⟩ = false ∧ W.cell? ⟨w.heap.size, 3, none⟩ = some (.int .i64 d) ∧ W.frozen? ⟨w.heap.size, 3, none⟩ = false ∧ W.cell? ⟨w.heap.size + 1, 0, none⟩ = some (.int .i64 s) ∧ W.frozen? ⟨w.heap.size + 1, 0, none⟩ = false ∧ W.cell? ⟨w.heap.size + 1, 1, none⟩ = some (.int .i64 t) ∧ W.frozen? ⟨w.heap.size + 1, 1, none⟩ = false ∧ W.cell? ⟨w.heap.size + 1, 2, none⟩ = some (.int .i64 u) ∧ W.frozen? ⟨w.heap.size + 1, 2, none⟩ = false ∧ W.cell? ⟨w.heap.size + 1, 3, none⟩ = some (.int .i64 v) ∧ W.frozen? ⟨w.heap.size + 1, 3, none⟩ = false ∧ Below w.heap.size w W ∧ w.heap.size + 1 + 1 ≤ W.heap.size) 8 79 [.val (.agg #[.int .i64 a, .int .i64 b, .int .i64 c, .int .i64 d]), .val (.agg #[.int .i64 s, .int .i64 t, .int .i64 u, .int .i64 v]), .call 23 #[.agg #[.int .i64 a, .int .i64 b, .int .i64 c, .int .i64 d], .agg #[.int .i64 s, .int .i64 t, .int .i64 u, .int .i64 v]] (.agg #[.int .i64 M0, .int .i64 M1, .int .i64 M2, .int .i64 M3]), .val (.agg #[.int .i64 a, .int .i64 b, .int .i64 c, .int .i64 d]), .val (.agg #[.int .i64 s, .int .i64 t, .int .i64 u, .int .i64 v]), .call 25 #[.agg #[.int .i64 a, .int .i64 b, .int .i64 c, .int .i64 d], .agg #[.int .i64 s, .int .i64 t, .int .i64 u, .int .i64 v]] (.agg #[.int .i64 U0, .int .i64 U1, .int .i64 U2, .int .i64 U3]), .fresh (.cells #[.int .i64 0, .int .i64 0, .int .i64 0, .int .i64 0] 23), .fresh (.cells #[.int .i64 0, .int .i64 0, .int .i64 0, .int .i64 0] 23)] (by kernel_rfl) (by kernel_rfl) rfl (by kernel_rfl) (by rintro w1 w2 ⟨h0, h1, h2, h3, h4, h5, h6, h7, h8, h9, h10, h11, h12, h13, h14, h15⟩ hb; exact ⟨bcs hb h0, bfs hb h0 h1, bcs hb h2, bfs hb h2 h3, bcs hb h4, bfs hb h4 h5, bcs hb h6, bfs hb h6 h7, bcs hb h8, bfs hb h8 h9, bcs hb h10, bfs hb h10 h11, bcs hb h12, bfs hb h12 h13, bcs hb h14, bfs hb h14 h15⟩) ⟨by first | with_reducible assumption | go_simp, by first | with_reducible assumption | go_simp, by first | with_reducible assumption | go_simp, by first | with_reducible assumption | go_simp, by first | with_reducible assumption | go_simp, by first | with_reducible assumption | go_simp, by first | with_reducible assumption | go_simp, by first | with_reducible assumption | go_simp, by first | with_reducible assumption | go_simp, by first | with_reducible assumption | go_simp, by first | with_reducible assumption | go_simp, by first | with_reducible assumption | go_simp, by first | with_reducible assumption | go_simp, by first | with_reducible assumption | go_simp, by first | with_reducible assumption | go_simp, by first | with_reducible assumption | go_simp, by repeat (first | with_reducible exact Below.refl _ _ | fail | with_reducible apply below_drewN | with_reducible apply Below.drew | (with_reducible refine Below.alloc ?_ (by first | (simp; done) | (simp; omega) | omega) _) | (with_reducible refine Below.setCell ?_ (by first | (simp; done) | (simp; omega) | omega) _)), by first | with_reducible assumption | (simp; done) | (simp; omega)⟩ ?_ ?_
  · rintro W ⟨k1_b3_0, g1_b3_0, k1_b3_1, g1_b3_1, k1_b3_2, g1_b3_2, k1_b3_3, g1_b3_3, k1_b4_0, g1_b4_0, k1_b4_1, g1_b4_1, k1_b4_2, g1_b4_2, k1_b4_3, g1_b4_3, B1, z1⟩; exact ⟨k1_b3_0, g1_b3_0, k1_b3_1, g1_b3_1, k1_b3_2, g1_b3_2, k1_b3_3, g1_b3_3, k1_b4_0, g1_b4_0, k1_b4_1, g1_b4_1, k1_b4_2, g1_b4_2, k1_b4_3, g1_b4_3⟩
  rintro w1 ⟨k1_b3_0, g1_b3_0, k1_b3_1, g1_b3_1, k1_b3_2, g1_b3_2, k1_b3_3, g1_b3_3, k1_b4_0, g1_b4_0, k1_b4_1, g1_b4_1, k1_b4_2, g1_b4_2, k1_b4_3, g1_b4_3, B1, z1⟩ gg
  simp only [List.take_succ_cons, List.take_zero, List.drop_succ_cons, List.drop_zero, List.cons_append, List.nil_append, List.append_nil]
  refine obe_val (by rfl) ?_ ?_
  · clear k1_b3_0 g1_b3_0 k1_b3_1 g1_b3_1 k1_b3_2 g1_b3_2 k1_b3_3 g1_b3_3 k1_b4_0 g1_b4_0 k1_b4_1 g1_b4_1 k1_b4_2 g1_b4_2 k1_b4_3 g1_b4_3 B1 z1; intro f hf; have u3 : f 3 = (.pointer (some ⟨w.heap.size, 0, none⟩)) := (by rw [← hf]; rfl); clear hf; rintro w' ⟨h0, h1, h2, h3, h4, h5, h6, h7, h8, h9, h10, h11, h12, h13, h14, h15⟩; go_simp; try exact IntWalk.i64_in _ (by omega)
  refine obe_val (by rfl) ?_ ?_
  · clear k1_b3_0 g1_b3_0 k1_b3_1 g1_b3_1 k1_b3_2 g1_b3_2 k1_b3_3 g1_b3_3 k1_b4_0 g1_b4_0 k1_b4_1 g1_b4_1 k1_b4_2 g1_b4_2 k1_b4_3 g1_b4_3 B1 z1; intro f hf; have u4 : f 4 = (.pointer (some ⟨w.heap.size + 1, 0, none⟩)) := (by rw [← hf]; rfl); clear hf; rintro w' ⟨h0, h1, h2, h3, h4, h5, h6, h7, h8, h9, h10, h11, h12, h13, h14, h15⟩; go_simp; try exact IntWalk.i64_in _ (by omega)
  refine obe_call (by rfl) ?_ ?_ ?_
  · clear k1_b3_0 g1_b3_0 k1_b3_1 g1_b3_1 k1_b3_2 g1_b3_2 k1_b3_3 g1_b3_3 k1_b4_0 g1_b4_0 k1_b4_1 g1_b4_1 k1_b4_2 g1_b4_2 k1_b4_3 g1_b4_3 B1 z1; intro f hf; have u10 : f 10 = (.agg #[.int .i64 a, .int .i64 b, .int .i64 c, .int .i64 d]) := (by rw [← hf]; rfl); have u11 : f 11 = (.agg #[.int .i64 s, .int .i64 t, .int .i64 u, .int .i64 v]) := (by rw [← hf]; rfl); clear hf; intro w' _; simp only [execOp, resolve, invoke, rhoF_tmp, rhoF_func, rhoF_const, u10, u11, List.map_toArray, List.map_cons, List.map_nil]; go_simp
  · clear k1_b3_0 g1_b3_0 k1_b3_1 g1_b3_1 k1_b3_2 g1_b3_2 k1_b3_3 g1_b3_3 k1_b4_0 g1_b4_0 k1_b4_1 g1_b4_1 k1_b4_2 g1_b4_2 k1_b4_3 g1_b4_3 B1 z1; rintro w' ⟨h0, h1, h2, h3, h4, h5, h6, h7, h8, h9, h10, h11, h12, h13, h14, h15⟩; exact ci _
  refine obe_val (by rfl) ?_ ?_
  · clear k1_b3_0 g1_b3_0 k1_b3_1 g1_b3_1 k1_b3_2 g1_b3_2 k1_b3_3 g1_b3_3 k1_b4_0 g1_b4_0 k1_b4_1 g1_b4_1 k1_b4_2 g1_b4_2 k1_b4_3 g1_b4_3 B1 z1; intro f hf; have u3 : f 3 = (.pointer (some ⟨w.heap.size, 0, none⟩)) := (by rw [← hf]; rfl); clear hf; rintro w' ⟨h0, h1, h2, h3, h4, h5, h6, h7, h8, h9, h10, h11, h12, h13, h14, h15⟩; go_simp; try exact IntWalk.i64_in _ (by omega)
  refine obe_val (by rfl) ?_ ?_
  · clear k1_b3_0 g1_b3_0 k1_b3_1 g1_b3_1 k1_b3_2 g1_b3_2 k1_b3_3 g1_b3_3 k1_b4_0 g1_b4_0 k1_b4_1 g1_b4_1 k1_b4_2 g1_b4_2 k1_b4_3 g1_b4_3 B1 z1; intro f hf; have u4 : f 4 = (.pointer (some ⟨w.heap.size + 1, 0, none⟩)) := (by rw [← hf]; rfl); clear hf; rintro w' ⟨h0, h1, h2, h3, h4, h5, h6, h7, h8, h9, h10, h11, h12, h13, h14, h15⟩; go_simp; try exact IntWalk.i64_in _ (by omega)
  refine obe_call (by rfl) ?_ ?_ ?_
  · clear k1_b3_0 g1_b3_0 k1_b3_1 g1_b3_1 k1_b3_2 g1_b3_2 k1_b3_3 g1_b3_3 k1_b4_0 g1_b4_0 k1_b4_1 g1_b4_1 k1_b4_2 g1_b4_2 k1_b4_3 g1_b4_3 B1 z1; intro f hf; have u13 : f 13 = (.agg #[.int .i64 a, .int .i64 b, .int .i64 c, .int .i64 d]) := (by rw [← hf]; rfl); have u14 : f 14 = (.agg #[.int .i64 s, .int .i64 t, .int .i64 u, .int .i64 v]) := (by rw [← hf]; rfl); clear hf; intro w' _; simp only [execOp, resolve, invoke, rhoF_tmp, rhoF_func, rhoF_const, u13, u14, List.map_toArray, List.map_cons, List.map_nil]; go_simp
  · clear k1_b3_0 g1_b3_0 k1_b3_1 g1_b3_1 k1_b3_2 g1_b3_2 k1_b3_3 g1_b3_3 k1_b4_0 g1_b4_0 k1_b4_1 g1_b4_1 k1_b4_2 g1_b4_2 k1_b4_3 g1_b4_3 B1 z1; rintro w' ⟨h0, h1, h2, h3, h4, h5, h6, h7, h8, h9, h10, h11, h12, h13, h14, h15⟩; exact cu _
  refine obe_fresh (by rfl) ?_ ?_
  · clear k1_b3_0 g1_b3_0 k1_b3_1 g1_b3_1 k1_b3_2 g1_b3_2 k1_b3_3 g1_b3_3 k1_b4_0 g1_b4_0 k1_b4_1 g1_b4_1 k1_b4_2 g1_b4_2 k1_b4_3 g1_b4_3 B1 z1; intro f hf; clear hf; rintro w' ⟨h0, h1, h2, h3, h4, h5, h6, h7, h8, h9, h10, h11, h12, h13, h14, h15⟩; go_simp
  refine obe_fresh (by rfl) ?_ ?_
  · clear k1_b3_0 g1_b3_0 k1_b3_1 g1_b3_1 k1_b3_2 g1_b3_2 k1_b3_3 g1_b3_3 k1_b4_0 g1_b4_0 k1_b4_1 g1_b4_1 k1_b4_2 g1_b4_2 k1_b4_3 g1_b4_3 B1 z1; intro f hf; clear hf; rintro w' ⟨h0, h1, h2, h3, h4, h5, h6, h7, h8, h9, h10, h11, h12, h13, h14, h15⟩; go_simp
  refine obe_nil ?_
  rintro w2 ⟨h0, h1, h2, h3, h4, h5, h6, h7, h8, h9, h10, h11, h12, h13, h14, h15⟩ hb2 hF
  (try simp only [List.nil_append, List.append_nil, List.cons_append] at hF)
  simp only [puts, putD, Act.put, List.setIfInBounds_toArray, List.set_cons_zero, List.set_cons_succ]
  have lg7 : w1.heap.size ≤ gg 6 := hF.1.1
  have ug7 : gg 6 < w2.heap.size := hF.1.2.1
  have pg7 : w2.heap[gg 6]? = some (.cells #[.int .i64 0, .int .i64 0, .int .i64 0, .int .i64 0] 23) := hF.1.2.2
  have ng7_g8 : ¬ gg 6 = gg 7 := hF.2.1 (7, .cells #[.int .i64 0, .int .i64 0, .int .i64 0, .int .i64 0] 23) (by simp)
  have lg8 : w1.heap.size ≤ gg 7 := hF.2.2.1.1
  have ug8 : gg 7 < w2.heap.size := hF.2.2.1.2.1
  have pg8 : w2.heap[gg 7]? = some (.cells #[.int .i64 0, .int .i64 0, .int .i64 0, .int .i64 0] 23) := hF.2.2.1.2.2
  clear hF
  obtain ⟨g7, eg7⟩ : ∃ x, gg 6 = x := ⟨_, rfl⟩
  rw [eg7] at lg7 ug7 pg7 ng7_g8 ⊢
  clear eg7
  obtain ⟨g8, eg8⟩ : ∃ x, gg 7 = x := ⟨_, rfl⟩
  rw [eg8] at lg8 ug8 pg8 ng7_g8 ⊢
  clear eg8
  clear gg
  have k2_b3_0 := bcs hb2 k1_b3_0
  have g2_b3_0 := bfs hb2 k1_b3_0 g1_b3_0
  have k2_b3_1 := bcs hb2 k1_b3_1
  have g2_b3_1 := bfs hb2 k1_b3_1 g1_b3_1
  have k2_b3_2 := bcs hb2 k1_b3_2
  have g2_b3_2 := bfs hb2 k1_b3_2 g1_b3_2
  have k2_b3_3 := bcs hb2 k1_b3_3
  have g2_b3_3 := bfs hb2 k1_b3_3 g1_b3_3
  have k2_b4_0 := bcs hb2 k1_b4_0
  have g2_b4_0 := bfs hb2 k1_b4_0 g1_b4_0
  have k2_b4_1 := bcs hb2 k1_b4_1
  have g2_b4_1 := bfs hb2 k1_b4_1 g1_b4_1
  have k2_b4_2 := bcs hb2 k1_b4_2
  have g2_b4_2 := bfs hb2 k1_b4_2 g1_b4_2
  have k2_b4_3 := bcs hb2 k1_b4_3
  have g2_b4_3 := bfs hb2 k1_b4_3 g1_b4_3
  clear h0 h1 h2 h3 h4 h5 h6 h7 h8 h9 h10 h11 h12 h13 h14 h15
  have B2 := bel_step B1 hb2
  have z2 := Nat.le_trans z1 hb2.size
  have mg7 : w.heap.size ≤ g7 := by omega
  have ng7_b3 : ¬ g7 = w.heap.size := by omega
  have nb3_g7 : ¬ w.heap.size = g7 := by omega
  have ng7_b4 : ¬ g7 = w.heap.size + 1 := by omega
  have nb4_g7 : ¬ w.heap.size + 1 = g7 := by omega
  have k2_g7_0 : w2.cell? ⟨g7, 0, none⟩ = some (.int .i64 0) := cob pg7 0 rfl
  have g2_g7_0 : w2.frozen? ⟨g7, 0, none⟩ = false := fob pg7 0
  have k2_g7_1 : w2.cell? ⟨g7, 1, none⟩ = some (.int .i64 0) := cob pg7 1 rfl
  have g2_g7_1 : w2.frozen? ⟨g7, 1, none⟩ = false := fob pg7 1
  have k2_g7_2 : w2.cell? ⟨g7, 2, none⟩ = some (.int .i64 0) := cob pg7 2 rfl
  have g2_g7_2 : w2.frozen? ⟨g7, 2, none⟩ = false := fob pg7 2
  have k2_g7_3 : w2.cell? ⟨g7, 3, none⟩ = some (.int .i64 0) := cob pg7 3 rfl
  have g2_g7_3 : w2.frozen? ⟨g7, 3, none⟩ = false := fob pg7 3
  have mg8 : w.heap.size ≤ g8 := by omega
  have ng8_b3 : ¬ g8 = w.heap.size := by omega
  have nb3_g8 : ¬ w.heap.size = g8 := by omega
  have ng8_b4 : ¬ g8 = w.heap.size + 1 := by omega
  have nb4_g8 : ¬ w.heap.size + 1 = g8 := by omega
  have k2_g8_0 : w2.cell? ⟨g8, 0, none⟩ = some (.int .i64 0) := cob pg8 0 rfl
  have g2_g8_0 : w2.frozen? ⟨g8, 0, none⟩ = false := fob pg8 0
  have k2_g8_1 : w2.cell? ⟨g8, 1, none⟩ = some (.int .i64 0) := cob pg8 1 rfl
  have g2_g8_1 : w2.frozen? ⟨g8, 1, none⟩ = false := fob pg8 1
  have k2_g8_2 : w2.cell? ⟨g8, 2, none⟩ = some (.int .i64 0) := cob pg8 2 rfl
  have g2_g8_2 : w2.frozen? ⟨g8, 2, none⟩ = false := fob pg8 2
  have k2_g8_3 : w2.cell? ⟨g8, 3, none⟩ = some (.int .i64 0) := cob pg8 3 rfl
  have g2_g8_3 : w2.frozen? ⟨g8, 3, none⟩ = false := fob pg8 3
  have ng8_g7 : ¬ g8 = g7 := fun h => ng7_g8 h.symm
  clear lg7 ug7 pg7
  clear lg8 ug8 pg8
  clear hb2
  (try clear B1)
  (try clear z1)
  (try clear k1_b3_0)
  (try clear g1_b3_0)
  (try clear k1_b3_1)
  (try clear g1_b3_1)
  (try clear k1_b3_2)
  (try clear g1_b3_2)
  (try clear k1_b3_3)
  (try clear g1_b3_3)
  (try clear k1_b4_0)
  (try clear g1_b4_0)
  (try clear k1_b4_1)
  (try clear g1_b4_1)
  (try clear k1_b4_2)
  (try clear g1_b4_2)
  (try clear k1_b4_3)
  (try clear g1_b4_3)
  (try clear q1_b3)
  (try clear x1_b3)
  (try clear y1_b3)
  (try clear q1_b4)
  (try clear x1_b4)
  (try clear y1_b4)
  have q2_b3 : w.heap.size < w2.heap.size := qlt k2_b3_0
  have x2_b3 : ¬ w.heap.size = w2.heap.size := qne k2_b3_0
  have y2_b3 : ¬ w2.heap.size = w.heap.size := fun h => qne k2_b3_0 h.symm
  have q2_b4 : w.heap.size + 1 < w2.heap.size := qlt k2_b4_0
  have x2_b4 : ¬ w.heap.size + 1 = w2.heap.size := qne k2_b4_0
  have y2_b4 : ¬ w2.heap.size = w.heap.size + 1 := fun h => qne k2_b4_0 h.symm
  have q2_g7 : g7 < w2.heap.size := qlt k2_g7_0
  have x2_g7 : ¬ g7 = w2.heap.size := qne k2_g7_0
  have y2_g7 : ¬ w2.heap.size = g7 := fun h => qne k2_g7_0 h.symm
  have q2_g8 : g8 < w2.heap.size := qlt k2_g8_0
  have x2_g8 : ¬ g8 = w2.heap.size := qne k2_g8_0
  have y2_g8 : ¬ w2.heap.size = g8 := fun h => qne k2_g8_0 h.symm
  go_wp2
  refine wp_region_env (fun w' => w'.cell? ⟨w.heap.size, 0, none⟩ = some (.int .i64 a) ∧ w'.frozen? ⟨w.heap.size, 0, none⟩ = false ∧ w'.cell? ⟨w.heap.size, 1, none⟩ = some (.int .i64 b) ∧ w'.frozen? ⟨w.heap.size, 1, none⟩ = false ∧ w'.cell? ⟨w.heap.size, 2, none⟩ = some (.int .i64 c) ∧ w'.frozen? ⟨w.heap.size, 2, none⟩ = false ∧ w'.cell? ⟨w.heap.size, 3, none⟩ = some (.int .i64 d) ∧ w'.frozen? ⟨w.heap.size, 3, none⟩ = false ∧ w'.cell? ⟨w.heap.size + 1, 0, none⟩ = some (.int .i64 s) ∧ w'.frozen? ⟨w.heap.size + 1, 0, none⟩ = false ∧ w'.cell? ⟨w.heap.size + 1, 1, none⟩ = some (.int .i64 t) ∧ w'.frozen? ⟨w.heap.size + 1, 1, none⟩ = false ∧ w'.cell? ⟨w.heap.size + 1, 2, none⟩ = some (.int .i64 u) ∧ w'.frozen? ⟨w.heap.size + 1, 2, none⟩ = false ∧ w'.cell? ⟨w.heap.size + 1, 3, none⟩ = some (.int .i64 v) ∧ w'.frozen? ⟨w.heap.size + 1, 3, none⟩ = false ∧ w'.cell? ⟨g7, 0, none⟩ = some (.int .i64 M0) ∧ w'.frozen? ⟨g7, 0, none⟩ = false ∧ w'.cell? ⟨g7, 1, none⟩ = some (.int .i64 M1) ∧ w'.frozen? ⟨g7, 1, none⟩ = false ∧ w'.cell? ⟨g7, 2, none⟩ = some (.int .i64 M2) ∧ w'.frozen? ⟨g7, 2, none⟩ = false ∧ w'.cell? ⟨g7, 3, none⟩ = some (.int .i64 M3) ∧ w'.frozen? ⟨g7, 3, none⟩ = false ∧ w'.cell? ⟨g8, 0, none⟩ = some (.int .i64 U0) ∧ w'.frozen? ⟨g8, 0, none⟩ = false ∧ w'.cell? ⟨g8, 1, none⟩ = some (.int .i64 U1) ∧ w'.frozen? ⟨g8, 1, none⟩ = false ∧ w'.cell? ⟨g8, 2, none⟩ = some (.int .i64 U2) ∧ w'.frozen? ⟨g8, 2, none⟩ = false ∧ w'.cell? ⟨g8, 3, none⟩ = some (.int .i64 U3) ∧ w'.frozen? ⟨g8, 3, none⟩ = false) (fun W => W.cell? ⟨w.heap.size, 0, none⟩ = some (.int .i64 a) ∧ W.frozen? ⟨w.heap.size, 0, none⟩ = false ∧ W.cell? ⟨w.heap.size, 1, none⟩ = some (.int .i64 b) ∧ W.frozen? ⟨w.heap.size, 1, none⟩ = false ∧ W.cell? ⟨w.heap.size, 2, none⟩ = some (.int .i64 c) ∧ W.frozen? ⟨w.heap.size, 2, none⟩ = false ∧ W.cell? ⟨w.heap.size, 3, none⟩ = some (.int .i64 d) ∧ W.frozen? ⟨w.heap.size, 3, none⟩ = false ∧ W.cell? ⟨w.heap.size + 1, 0, none⟩ = some (.int .i64 s) ∧ W.frozen? ⟨w.heap.size + 1, 0, none⟩ = false ∧ W.cell? ⟨w.heap.size + 1, 1, none⟩ = some (.int .i64 t) ∧ W.frozen? ⟨w.heap.size + 1, 1, none⟩ = false ∧ W.cell? ⟨w.heap.size + 1, 2, none⟩ = some (.int .i64 u) ∧ W.frozen? ⟨w.heap.size + 1, 2, none⟩ = false ∧ W.cell? ⟨w.heap.size + 1, 3, none⟩ = some (.int .i64 v) ∧ W.frozen? ⟨w.heap.size + 1, 3, none⟩ = false ∧ W.cell? ⟨g7, 0, none⟩ = some (.int .i64 M0) ∧ W.frozen? ⟨g7, 0, none⟩ = false ∧ W.cell? ⟨g7, 1, none⟩ = some (.int .i64 M1) ∧ W.frozen? ⟨g7, 1, none⟩ = false ∧ W.cell? ⟨g7, 2, none⟩ = some (.int .i64 M2) ∧ W.frozen? ⟨g7, 2, none⟩ = false ∧ W.cell? ⟨g7, 3, none⟩ = some (.int .i64 M3) ∧ W.frozen? ⟨g7, 3, none⟩ = false ∧ W.cell? ⟨g8, 0, none⟩ = some (.int .i64 U0) ∧ W.frozen? ⟨g8, 0, none⟩ = false ∧ W.cell? ⟨g8, 1, none⟩ = some (.int .i64 U1) ∧ W.frozen? ⟨g8, 1, none⟩ = false ∧ W.cell? ⟨g8, 2, none⟩ = some (.int .i64 U2) ∧ W.frozen? ⟨g8, 2, none⟩ = false ∧ W.cell? ⟨g8, 3, none⟩ = some (.int .i64 U3) ∧ W.frozen? ⟨g8, 3, none⟩ = false ∧ Below w.heap.size w W ∧ w.heap.size + 1 + 1 ≤ W.heap.size) 36 79 [.val (.agg #[.int .i64 M0, .int .i64 M1, .int .i64 M2, .int .i64 M3]), .val (.agg #[.int .i64 a, .int .i64 b, .int .i64 c, .int .i64 d]), .call 21 #[.agg #[.int .i64 M0, .int .i64 M1, .int .i64 M2, .int .i64 M3], .agg #[.int .i64 a, .int .i64 b, .int .i64 c, .int .i64 d]] (.bool true), .val (.bool false), .val (.bool false), .val (.agg #[.int .i64 M0, .int .i64 M1, .int .i64 M2, .int .i64 M3]), .val (.agg #[.int .i64 s, .int .i64 t, .int .i64 u, .int .i64 v]), .call 21 #[.agg #[.int .i64 M0, .int .i64 M1, .int .i64 M2, .int .i64 M3], .agg #[.int .i64 s, .int .i64 t, .int .i64 u, .int .i64 v]] (.bool true), .val (.bool false), .val (.bool false), .val (.bool false), .val (.agg #[.int .i64 a, .int .i64 b, .int .i64 c, .int .i64 d]), .val (.agg #[.int .i64 U0, .int .i64 U1, .int .i64 U2, .int .i64 U3]), .call 21 #[.agg #[.int .i64 a, .int .i64 b, .int .i64 c, .int .i64 d], .agg #[.int .i64 U0, .int .i64 U1, .int .i64 U2, .int .i64 U3]] (.bool true), .val (.bool false), .val (.bool false), .val (.bool false), .val (.agg #[.int .i64 s, .int .i64 t, .int .i64 u, .int .i64 v]), .val (.agg #[.int .i64 U0, .int .i64 U1, .int .i64 U2, .int .i64 U3]), .call 21 #[.agg #[.int .i64 s, .int .i64 t, .int .i64 u, .int .i64 v], .agg #[.int .i64 U0, .int .i64 U1, .int .i64 U2, .int .i64 U3]] (.bool true), .val (.bool false), .val (.bool false), .val (.bool false), .val (.agg #[.int .i64 s, .int .i64 t, .int .i64 u, .int .i64 v]), .val (.agg #[.int .i64 a, .int .i64 b, .int .i64 c, .int .i64 d]), .call 25 #[.agg #[.int .i64 s, .int .i64 t, .int .i64 u, .int .i64 v], .agg #[.int .i64 a, .int .i64 b, .int .i64 c, .int .i64 d]] (.agg #[.int .i64 U0, .int .i64 U1, .int .i64 U2, .int .i64 U3]), .val (.agg #[.int .i64 U0, .int .i64 U1, .int .i64 U2, .int .i64 U3]), .val (.bool false), .val (.bool false), .val (.bool false), .val (.agg #[.int .i64 s, .int .i64 t, .int .i64 u, .int .i64 v]), .val (.agg #[.int .i64 a, .int .i64 b, .int .i64 c, .int .i64 d]), .call 23 #[.agg #[.int .i64 s, .int .i64 t, .int .i64 u, .int .i64 v], .agg #[.int .i64 a, .int .i64 b, .int .i64 c, .int .i64 d]] (.agg #[.int .i64 M0, .int .i64 M1, .int .i64 M2, .int .i64 M3]), .val (.agg #[.int .i64 M0, .int .i64 M1, .int .i64 M2, .int .i64 M3]), .val (.bool false), .val (.bool false)] (by kernel_rfl) (by kernel_rfl) rfl (by kernel_rfl) (by rintro w1 w2 ⟨h0, h1, h2, h3, h4, h5, h6, h7, h8, h9, h10, h11, h12, h13, h14, h15, h16, h17, h18, h19, h20, h21, h22, h23, h24, h25, h26, h27, h28, h29, h30, h31⟩ hb; exact ⟨bcs hb h0, bfs hb h0 h1, bcs hb h2, bfs hb h2 h3, bcs hb h4, bfs hb h4 h5, bcs hb h6, bfs hb h6 h7, bcs hb h8, bfs hb h8 h9, bcs hb h10, bfs hb h10 h11, bcs hb h12, bfs hb h12 h13, bcs hb h14, bfs hb h14 h15, bcs hb h16, bfs hb h16 h17, bcs hb h18, bfs hb h18 h19, bcs hb h20, bfs hb h20 h21, bcs hb h22, bfs hb h22 h23, bcs hb h24, bfs hb h24 h25, bcs hb h26, bfs hb h26 h27, bcs hb h28, bfs hb h28 h29, bcs hb h30, bfs hb h30 h31⟩) ⟨by first | with_reducible assumption | go_simp, by first | with_reducible assumption | go_simp, by first | with_reducible assumption | go_simp, by first | with_reducible assumption | go_simp, by first | with_reducible assumption | go_simp, by first | with_reducible assumption | go_simp, by first | with_reducible assumption | go_simp, by first | with_reducible assumption | go_simp, by first | with_reducible assumption | go_simp, by first | with_reducible assumption | go_simp, by first | with_reducible assumption | go_simp, by first | with_reducible assumption | go_simp, by first | with_reducible assumption | go_simp, by first | with_reducible assumption | go_simp, by first | with_reducible assumption | go_simp, by first | with_reducible assumption | go_simp, by first | with_reducible assumption | go_simp, by first | with_reducible assumption | go_simp, by first | with_reducible assumption | go_simp, by first | with_reducible assumption | go_simp, by first | with_reducible assumption | go_simp, by first | with_reducible assumption | go_simp, by first | with_reducible assumption | go_simp, by first | with_reducible assumption | go_simp, by first | with_reducible assumption | go_simp, by first | with_reducible assumption | go_simp, by first | with_reducible assumption | go_simp, by first | with_reducible assumption | go_simp, by first | with_reducible assumption | go_simp, by first | with_reducible assumption | go_simp, by first | with_reducible assumption | go_simp, by first | with_reducible assumption | go_simp, by repeat (first | with_reducible exact Below.refl _ _ | with_reducible exact B2 | with_reducible apply below_drewN | with_reducible apply Below.drew | (with_reducible refine Below.alloc ?_ (by first | (simp; done) | (simp; omega) | omega) _) | (with_reducible refine Below.setCell ?_ (by first | (simp; done) | (simp; omega) | omega) _)), by first | with_reducible assumption | (simp; done) | (simp; omega)⟩ ?_ ?_
  · rintro W ⟨k3_b3_0, g3_b3_0, k3_b3_1, g3_b3_1, k3_b3_2, g3_b3_2, k3_b3_3, g3_b3_3, k3_b4_0, g3_b4_0, k3_b4_1, g3_b4_1, k3_b4_2, g3_b4_2, k3_b4_3, g3_b4_3, k3_g7_0, g3_g7_0, k3_g7_1, g3_g7_1, k3_g7_2, g3_g7_2, k3_g7_3, g3_g7_3, k3_g8_0, g3_g8_0, k3_g8_1, g3_g8_1, k3_g8_2, g3_g8_2, k3_g8_3, g3_g8_3, B3, z3⟩; exact ⟨k3_b3_0, g3_b3_0, k3_b3_1, g3_b3_1, k3_b3_2, g3_b3_2, k3_b3_3, g3_b3_3, k3_b4_0, g3_b4_0, k3_b4_1, g3_b4_1, k3_b4_2, g3_b4_2, k3_b4_3, g3_b4_3, k3_g7_0, g3_g7_0, k3_g7_1, g3_g7_1, k3_g7_2, g3_g7_2, k3_g7_3, g3_g7_3, k3_g8_0, g3_g8_0, k3_g8_1, g3_g8_1, k3_g8_2, g3_g8_2, k3_g8_3, g3_g8_3⟩
  (try clear B2)
  (try clear z2)
  (try clear k2_b3_0)
  (try clear g2_b3_0)
  (try clear k2_b3_1)
  (try clear g2_b3_1)
  (try clear k2_b3_2)
  (try clear g2_b3_2)
  (try clear k2_b3_3)
  (try clear g2_b3_3)
  (try clear k2_b4_0)
  (try clear g2_b4_0)
  (try clear k2_b4_1)
  (try clear g2_b4_1)
  (try clear k2_b4_2)
  (try clear g2_b4_2)
  (try clear k2_b4_3)
  (try clear g2_b4_3)
  (try clear k2_g7_0)
  (try clear g2_g7_0)
  (try clear k2_g7_1)
  (try clear g2_g7_1)
  (try clear k2_g7_2)
  (try clear g2_g7_2)
  (try clear k2_g7_3)
  (try clear g2_g7_3)
  (try clear k2_g8_0)
  (try clear g2_g8_0)
  (try clear k2_g8_1)
  (try clear g2_g8_1)
  (try clear k2_g8_2)
  (try clear g2_g8_2)
  (try clear k2_g8_3)
  (try clear g2_g8_3)
  (try clear q2_b3)
  (try clear x2_b3)
  (try clear y2_b3)
  (try clear q2_b4)
  (try clear x2_b4)
  (try clear y2_b4)
  (try clear q2_g7)
  (try clear x2_g7)
  (try clear y2_g7)
  (try clear q2_g8)
  (try clear x2_g8)
  (try clear y2_g8)
  rintro w3 ⟨k3_b3_0, g3_b3_0, k3_b3_1, g3_b3_1, k3_b3_2, g3_b3_2, k3_b3_3, g3_b3_3, k3_b4_0, g3_b4_0, k3_b4_1, g3_b4_1, k3_b4_2, g3_b4_2, k3_b4_3, g3_b4_3, k3_g7_0, g3_g7_0, k3_g7_1, g3_g7_1, k3_g7_2, g3_g7_2, k3_g7_3, g3_g7_3, k3_g8_0, g3_g8_0, k3_g8_1, g3_g8_1, k3_g8_2, g3_g8_2, k3_g8_3, g3_g8_3, B3, z3⟩ gg
  simp only [List.take_succ_cons, List.take_zero, List.drop_succ_cons, List.drop_zero, List.cons_append, List.nil_append, List.append_nil]
  refine obe_val (by rfl) ?_ ?_
  · clear k3_b3_0 g3_b3_0 k3_b3_1 g3_b3_1 k3_b3_2 g3_b3_2 k3_b3_3 g3_b3_3 k3_b4_0 g3_b4_0 k3_b4_1 g3_b4_1 k3_b4_2 g3_b4_2 k3_b4_3 g3_b4_3 k3_g7_0 g3_g7_0 k3_g7_1 g3_g7_1 k3_g7_2 g3_g7_2 k3_g7_3 g3_g7_3 k3_g8_0 g3_g8_0 k3_g8_1 g3_g8_1 k3_g8_2 g3_g8_2 k3_g8_3 g3_g8_3 B3 z3; intro f hf; have u7 : f 7 = (.pointer (some ⟨g7, 0, none⟩)) := (by rw [← hf]; rfl); clear hf; rintro w' ⟨h0, h1, h2, h3, h4, h5, h6, h7, h8, h9, h10, h11, h12, h13, h14, h15, h16, h17, h18, h19, h20, h21, h22, h23, h24, h25, h26, h27, h28, h29, h30, h31⟩; go_simp; try exact IntWalk.i64_in _ (by omega)
  refine obe_val (by rfl) ?_ ?_
  · clear k3_b3_0 g3_b3_0 k3_b3_1 g3_b3_1 k3_b3_2 g3_b3_2 k3_b3_3 g3_b3_3 k3_b4_0 g3_b4_0 k3_b4_1 g3_b4_1 k3_b4_2 g3_b4_2 k3_b4_3 g3_b4_3 k3_g7_0 g3_g7_0 k3_g7_1 g3_g7_1 k3_g7_2 g3_g7_2 k3_g7_3 g3_g7_3 k3_g8_0 g3_g8_0 k3_g8_1 g3_g8_1 k3_g8_2 g3_g8_2 k3_g8_3 g3_g8_3 B3 z3; intro f hf; have u3 : f 3 = (.pointer (some ⟨w.heap.size, 0, none⟩)) := (by rw [← hf]; rfl); clear hf; rintro w' ⟨h0, h1, h2, h3, h4, h5, h6, h7, h8, h9, h10, h11, h12, h13, h14, h15, h16, h17, h18, h19, h20, h21, h22, h23, h24, h25, h26, h27, h28, h29, h30, h31⟩; go_simp; try exact IntWalk.i64_in _ (by omega)
  refine obe_call (by rfl) ?_ ?_ ?_
  · clear k3_b3_0 g3_b3_0 k3_b3_1 g3_b3_1 k3_b3_2 g3_b3_2 k3_b3_3 g3_b3_3 k3_b4_0 g3_b4_0 k3_b4_1 g3_b4_1 k3_b4_2 g3_b4_2 k3_b4_3 g3_b4_3 k3_g7_0 g3_g7_0 k3_g7_1 g3_g7_1 k3_g7_2 g3_g7_2 k3_g7_3 g3_g7_3 k3_g8_0 g3_g8_0 k3_g8_1 g3_g8_1 k3_g8_2 g3_g8_2 k3_g8_3 g3_g8_3 B3 z3; intro f hf; have u16 : f 16 = (.agg #[.int .i64 M0, .int .i64 M1, .int .i64 M2, .int .i64 M3]) := (by rw [← hf]; rfl); have u17 : f 17 = (.agg #[.int .i64 a, .int .i64 b, .int .i64 c, .int .i64 d]) := (by rw [← hf]; rfl); clear hf; intro w' _; simp only [execOp, resolve, invoke, rhoF_tmp, rhoF_func, rhoF_const, u16, u17, List.map_toArray, List.map_cons, List.map_nil]; go_simp
  · clear k3_b3_0 g3_b3_0 k3_b3_1 g3_b3_1 k3_b3_2 g3_b3_2 k3_b3_3 g3_b3_3 k3_b4_0 g3_b4_0 k3_b4_1 g3_b4_1 k3_b4_2 g3_b4_2 k3_b4_3 g3_b4_3 k3_g7_0 g3_g7_0 k3_g7_1 g3_g7_1 k3_g7_2 g3_g7_2 k3_g7_3 g3_g7_3 k3_g8_0 g3_g8_0 k3_g8_1 g3_g8_1 k3_g8_2 g3_g8_2 k3_g8_3 g3_g8_3 B3 z3; rintro w' ⟨h0, h1, h2, h3, h4, h5, h6, h7, h8, h9, h10, h11, h12, h13, h14, h15, h16, h17, h18, h19, h20, h21, h22, h23, h24, h25, h26, h27, h28, h29, h30, h31⟩; exact cw0 _
  refine obe_val (by rfl) ?_ ?_
  · clear k3_b3_0 g3_b3_0 k3_b3_1 g3_b3_1 k3_b3_2 g3_b3_2 k3_b3_3 g3_b3_3 k3_b4_0 g3_b4_0 k3_b4_1 g3_b4_1 k3_b4_2 g3_b4_2 k3_b4_3 g3_b4_3 k3_g7_0 g3_g7_0 k3_g7_1 g3_g7_1 k3_g7_2 g3_g7_2 k3_g7_3 g3_g7_3 k3_g8_0 g3_g8_0 k3_g8_1 g3_g8_1 k3_g8_2 g3_g8_2 k3_g8_3 g3_g8_3 B3 z3; intro f hf; have u18 : f 18 = (.bool true) := (by rw [← hf]; rfl); clear hf; rintro w' ⟨h0, h1, h2, h3, h4, h5, h6, h7, h8, h9, h10, h11, h12, h13, h14, h15, h16, h17, h18, h19, h20, h21, h22, h23, h24, h25, h26, h27, h28, h29, h30, h31⟩; go_simp; try exact IntWalk.i64_in _ (by omega)
  refine obe_val (by rfl) ?_ ?_
  · clear k3_b3_0 g3_b3_0 k3_b3_1 g3_b3_1 k3_b3_2 g3_b3_2 k3_b3_3 g3_b3_3 k3_b4_0 g3_b4_0 k3_b4_1 g3_b4_1 k3_b4_2 g3_b4_2 k3_b4_3 g3_b4_3 k3_g7_0 g3_g7_0 k3_g7_1 g3_g7_1 k3_g7_2 g3_g7_2 k3_g7_3 g3_g7_3 k3_g8_0 g3_g8_0 k3_g8_1 g3_g8_1 k3_g8_2 g3_g8_2 k3_g8_3 g3_g8_3 B3 z3; intro f hf; have u19 : f 19 = (.bool false) := (by rw [← hf]; rfl); clear hf; rintro w' ⟨h0, h1, h2, h3, h4, h5, h6, h7, h8, h9, h10, h11, h12, h13, h14, h15, h16, h17, h18, h19, h20, h21, h22, h23, h24, h25, h26, h27, h28, h29, h30, h31⟩; go_simp; try exact IntWalk.i64_in _ (by omega)
  refine obe_val (by rfl) ?_ ?_
  · clear k3_b3_0 g3_b3_0 k3_b3_1 g3_b3_1 k3_b3_2 g3_b3_2 k3_b3_3 g3_b3_3 k3_b4_0 g3_b4_0 k3_b4_1 g3_b4_1 k3_b4_2 g3_b4_2 k3_b4_3 g3_b4_3 k3_g7_0 g3_g7_0 k3_g7_1 g3_g7_1 k3_g7_2 g3_g7_2 k3_g7_3 g3_g7_3 k3_g8_0 g3_g8_0 k3_g8_1 g3_g8_1 k3_g8_2 g3_g8_2 k3_g8_3 g3_g8_3 B3 z3; intro f hf; have u7 : f 7 = (.pointer (some ⟨g7, 0, none⟩)) := (by rw [← hf]; rfl); clear hf; rintro w' ⟨h0, h1, h2, h3, h4, h5, h6, h7, h8, h9, h10, h11, h12, h13, h14, h15, h16, h17, h18, h19, h20, h21, h22, h23, h24, h25, h26, h27, h28, h29, h30, h31⟩; go_simp; try exact IntWalk.i64_in _ (by omega)
  refine obe_val (by rfl) ?_ ?_
  · clear k3_b3_0 g3_b3_0 k3_b3_1 g3_b3_1 k3_b3_2 g3_b3_2 k3_b3_3 g3_b3_3 k3_b4_0 g3_b4_0 k3_b4_1 g3_b4_1 k3_b4_2 g3_b4_2 k3_b4_3 g3_b4_3 k3_g7_0 g3_g7_0 k3_g7_1 g3_g7_1 k3_g7_2 g3_g7_2 k3_g7_3 g3_g7_3 k3_g8_0 g3_g8_0 k3_g8_1 g3_g8_1 k3_g8_2 g3_g8_2 k3_g8_3 g3_g8_3 B3 z3; intro f hf; have u4 : f 4 = (.pointer (some ⟨w.heap.size + 1, 0, none⟩)) := (by rw [← hf]; rfl); clear hf; rintro w' ⟨h0, h1, h2, h3, h4, h5, h6, h7, h8, h9, h10, h11, h12, h13, h14, h15, h16, h17, h18, h19, h20, h21, h22, h23, h24, h25, h26, h27, h28, h29, h30, h31⟩; go_simp; try exact IntWalk.i64_in _ (by omega)
  refine obe_call (by rfl) ?_ ?_ ?_
  · clear k3_b3_0 g3_b3_0 k3_b3_1 g3_b3_1 k3_b3_2 g3_b3_2 k3_b3_3 g3_b3_3 k3_b4_0 g3_b4_0 k3_b4_1 g3_b4_1 k3_b4_2 g3_b4_2 k3_b4_3 g3_b4_3 k3_g7_0 g3_g7_0 k3_g7_1 g3_g7_1 k3_g7_2 g3_g7_2 k3_g7_3 g3_g7_3 k3_g8_0 g3_g8_0 k3_g8_1 g3_g8_1 k3_g8_2 g3_g8_2 k3_g8_3 g3_g8_3 B3 z3; intro f hf; have u21 : f 21 = (.agg #[.int .i64 M0, .int .i64 M1, .int .i64 M2, .int .i64 M3]) := (by rw [← hf]; rfl); have u22 : f 22 = (.agg #[.int .i64 s, .int .i64 t, .int .i64 u, .int .i64 v]) := (by rw [← hf]; rfl); clear hf; intro w' _; simp only [execOp, resolve, invoke, rhoF_tmp, rhoF_func, rhoF_const, u21, u22, List.map_toArray, List.map_cons, List.map_nil]; go_simp
  · clear k3_b3_0 g3_b3_0 k3_b3_1 g3_b3_1 k3_b3_2 g3_b3_2 k3_b3_3 g3_b3_3 k3_b4_0 g3_b4_0 k3_b4_1 g3_b4_1 k3_b4_2 g3_b4_2 k3_b4_3 g3_b4_3 k3_g7_0 g3_g7_0 k3_g7_1 g3_g7_1 k3_g7_2 g3_g7_2 k3_g7_3 g3_g7_3 k3_g8_0 g3_g8_0 k3_g8_1 g3_g8_1 k3_g8_2 g3_g8_2 k3_g8_3 g3_g8_3 B3 z3; rintro w' ⟨h0, h1, h2, h3, h4, h5, h6, h7, h8, h9, h10, h11, h12, h13, h14, h15, h16, h17, h18, h19, h20, h21, h22, h23, h24, h25, h26, h27, h28, h29, h30, h31⟩; exact cw1 _
  refine obe_val (by rfl) ?_ ?_
  · clear k3_b3_0 g3_b3_0 k3_b3_1 g3_b3_1 k3_b3_2 g3_b3_2 k3_b3_3 g3_b3_3 k3_b4_0 g3_b4_0 k3_b4_1 g3_b4_1 k3_b4_2 g3_b4_2 k3_b4_3 g3_b4_3 k3_g7_0 g3_g7_0 k3_g7_1 g3_g7_1 k3_g7_2 g3_g7_2 k3_g7_3 g3_g7_3 k3_g8_0 g3_g8_0 k3_g8_1 g3_g8_1 k3_g8_2 g3_g8_2 k3_g8_3 g3_g8_3 B3 z3; intro f hf; have u23 : f 23 = (.bool true) := (by rw [← hf]; rfl); clear hf; rintro w' ⟨h0, h1, h2, h3, h4, h5, h6, h7, h8, h9, h10, h11, h12, h13, h14, h15, h16, h17, h18, h19, h20, h21, h22, h23, h24, h25, h26, h27, h28, h29, h30, h31⟩; go_simp; try exact IntWalk.i64_in _ (by omega)
  refine obe_val (by rfl) ?_ ?_
  · clear k3_b3_0 g3_b3_0 k3_b3_1 g3_b3_1 k3_b3_2 g3_b3_2 k3_b3_3 g3_b3_3 k3_b4_0 g3_b4_0 k3_b4_1 g3_b4_1 k3_b4_2 g3_b4_2 k3_b4_3 g3_b4_3 k3_g7_0 g3_g7_0 k3_g7_1 g3_g7_1 k3_g7_2 g3_g7_2 k3_g7_3 g3_g7_3 k3_g8_0 g3_g8_0 k3_g8_1 g3_g8_1 k3_g8_2 g3_g8_2 k3_g8_3 g3_g8_3 B3 z3; intro f hf; have u20 : f 20 = (.bool false) := (by rw [← hf]; rfl); have u24 : f 24 = (.bool false) := (by rw [← hf]; rfl); clear hf; rintro w' ⟨h0, h1, h2, h3, h4, h5, h6, h7, h8, h9, h10, h11, h12, h13, h14, h15, h16, h17, h18, h19, h20, h21, h22, h23, h24, h25, h26, h27, h28, h29, h30, h31⟩; go_simp; try exact IntWalk.i64_in _ (by omega)
  refine obe_val (by rfl) ?_ ?_
  · clear k3_b3_0 g3_b3_0 k3_b3_1 g3_b3_1 k3_b3_2 g3_b3_2 k3_b3_3 g3_b3_3 k3_b4_0 g3_b4_0 k3_b4_1 g3_b4_1 k3_b4_2 g3_b4_2 k3_b4_3 g3_b4_3 k3_g7_0 g3_g7_0 k3_g7_1 g3_g7_1 k3_g7_2 g3_g7_2 k3_g7_3 g3_g7_3 k3_g8_0 g3_g8_0 k3_g8_1 g3_g8_1 k3_g8_2 g3_g8_2 k3_g8_3 g3_g8_3 B3 z3; intro f hf; have u25 : f 25 = (.bool false) := (by rw [← hf]; rfl); clear hf; rintro w' ⟨h0, h1, h2, h3, h4, h5, h6, h7, h8, h9, h10, h11, h12, h13, h14, h15, h16, h17, h18, h19, h20, h21, h22, h23, h24, h25, h26, h27, h28, h29, h30, h31⟩; go_simp; try exact IntWalk.i64_in _ (by omega)
  refine obe_val (by rfl) ?_ ?_
  · clear k3_b3_0 g3_b3_0 k3_b3_1 g3_b3_1 k3_b3_2 g3_b3_2 k3_b3_3 g3_b3_3 k3_b4_0 g3_b4_0 k3_b4_1 g3_b4_1 k3_b4_2 g3_b4_2 k3_b4_3 g3_b4_3 k3_g7_0 g3_g7_0 k3_g7_1 g3_g7_1 k3_g7_2 g3_g7_2 k3_g7_3 g3_g7_3 k3_g8_0 g3_g8_0 k3_g8_1 g3_g8_1 k3_g8_2 g3_g8_2 k3_g8_3 g3_g8_3 B3 z3; intro f hf; have u3 : f 3 = (.pointer (some ⟨w.heap.size, 0, none⟩)) := (by rw [← hf]; rfl); clear hf; rintro w' ⟨h0, h1, h2, h3, h4, h5, h6, h7, h8, h9, h10, h11, h12, h13, h14, h15, h16, h17, h18, h19, h20, h21, h22, h23, h24, h25, h26, h27, h28, h29, h30, h31⟩; go_simp; try exact IntWalk.i64_in _ (by omega)
  refine obe_val (by rfl) ?_ ?_
  · clear k3_b3_0 g3_b3_0 k3_b3_1 g3_b3_1 k3_b3_2 g3_b3_2 k3_b3_3 g3_b3_3 k3_b4_0 g3_b4_0 k3_b4_1 g3_b4_1 k3_b4_2 g3_b4_2 k3_b4_3 g3_b4_3 k3_g7_0 g3_g7_0 k3_g7_1 g3_g7_1 k3_g7_2 g3_g7_2 k3_g7_3 g3_g7_3 k3_g8_0 g3_g8_0 k3_g8_1 g3_g8_1 k3_g8_2 g3_g8_2 k3_g8_3 g3_g8_3 B3 z3; intro f hf; have u8 : f 8 = (.pointer (some ⟨g8, 0, none⟩)) := (by rw [← hf]; rfl); clear hf; rintro w' ⟨h0, h1, h2, h3, h4, h5, h6, h7, h8, h9, h10, h11, h12, h13, h14, h15, h16, h17, h18, h19, h20, h21, h22, h23, h24, h25, h26, h27, h28, h29, h30, h31⟩; go_simp; try exact IntWalk.i64_in _ (by omega)
  refine obe_call (by rfl) ?_ ?_ ?_
  · clear k3_b3_0 g3_b3_0 k3_b3_1 g3_b3_1 k3_b3_2 g3_b3_2 k3_b3_3 g3_b3_3 k3_b4_0 g3_b4_0 k3_b4_1 g3_b4_1 k3_b4_2 g3_b4_2 k3_b4_3 g3_b4_3 k3_g7_0 g3_g7_0 k3_g7_1 g3_g7_1 k3_g7_2 g3_g7_2 k3_g7_3 g3_g7_3 k3_g8_0 g3_g8_0 k3_g8_1 g3_g8_1 k3_g8_2 g3_g8_2 k3_g8_3 g3_g8_3 B3 z3; intro f hf; have u27 : f 27 = (.agg #[.int .i64 a, .int .i64 b, .int .i64 c, .int .i64 d]) := (by rw [← hf]; rfl); have u28 : f 28 = (.agg #[.int .i64 U0, .int .i64 U1, .int .i64 U2, .int .i64 U3]) := (by rw [← hf]; rfl); clear hf; intro w' _; simp only [execOp, resolve, invoke, rhoF_tmp, rhoF_func, rhoF_const, u27, u28, List.map_toArray, List.map_cons, List.map_nil]; go_simp
  · clear k3_b3_0 g3_b3_0 k3_b3_1 g3_b3_1 k3_b3_2 g3_b3_2 k3_b3_3 g3_b3_3 k3_b4_0 g3_b4_0 k3_b4_1 g3_b4_1 k3_b4_2 g3_b4_2 k3_b4_3 g3_b4_3 k3_g7_0 g3_g7_0 k3_g7_1 g3_g7_1 k3_g7_2 g3_g7_2 k3_g7_3 g3_g7_3 k3_g8_0 g3_g8_0 k3_g8_1 g3_g8_1 k3_g8_2 g3_g8_2 k3_g8_3 g3_g8_3 B3 z3; rintro w' ⟨h0, h1, h2, h3, h4, h5, h6, h7, h8, h9, h10, h11, h12, h13, h14, h15, h16, h17, h18, h19, h20, h21, h22, h23, h24, h25, h26, h27, h28, h29, h30, h31⟩; exact cw2 _
  refine obe_val (by rfl) ?_ ?_
  · clear k3_b3_0 g3_b3_0 k3_b3_1 g3_b3_1 k3_b3_2 g3_b3_2 k3_b3_3 g3_b3_3 k3_b4_0 g3_b4_0 k3_b4_1 g3_b4_1 k3_b4_2 g3_b4_2 k3_b4_3 g3_b4_3 k3_g7_0 g3_g7_0 k3_g7_1 g3_g7_1 k3_g7_2 g3_g7_2 k3_g7_3 g3_g7_3 k3_g8_0 g3_g8_0 k3_g8_1 g3_g8_1 k3_g8_2 g3_g8_2 k3_g8_3 g3_g8_3 B3 z3; intro f hf; have u29 : f 29 = (.bool true) := (by rw [← hf]; rfl); clear hf; rintro w' ⟨h0, h1, h2, h3, h4, h5, h6, h7, h8, h9, h10, h11, h12, h13, h14, h15, h16, h17, h18, h19, h20, h21, h22, h23, h24, h25, h26, h27, h28, h29, h30, h31⟩; go_simp; try exact IntWalk.i64_in _ (by omega)
  refine obe_val (by rfl) ?_ ?_
  · clear k3_b3_0 g3_b3_0 k3_b3_1 g3_b3_1 k3_b3_2 g3_b3_2 k3_b3_3 g3_b3_3 k3_b4_0 g3_b4_0 k3_b4_1 g3_b4_1 k3_b4_2 g3_b4_2 k3_b4_3 g3_b4_3 k3_g7_0 g3_g7_0 k3_g7_1 g3_g7_1 k3_g7_2 g3_g7_2 k3_g7_3 g3_g7_3 k3_g8_0 g3_g8_0 k3_g8_1 g3_g8_1 k3_g8_2 g3_g8_2 k3_g8_3 g3_g8_3 B3 z3; intro f hf; have u26 : f 26 = (.bool false) := (by rw [← hf]; rfl); have u30 : f 30 = (.bool false) := (by rw [← hf]; rfl); clear hf; rintro w' ⟨h0, h1, h2, h3, h4, h5, h6, h7, h8, h9, h10, h11, h12, h13, h14, h15, h16, h17, h18, h19, h20, h21, h22, h23, h24, h25, h26, h27, h28, h29, h30, h31⟩; go_simp; try exact IntWalk.i64_in _ (by omega)
  refine obe_val (by rfl) ?_ ?_
  · clear k3_b3_0 g3_b3_0 k3_b3_1 g3_b3_1 k3_b3_2 g3_b3_2 k3_b3_3 g3_b3_3 k3_b4_0 g3_b4_0 k3_b4_1 g3_b4_1 k3_b4_2 g3_b4_2 k3_b4_3 g3_b4_3 k3_g7_0 g3_g7_0 k3_g7_1 g3_g7_1 k3_g7_2 g3_g7_2 k3_g7_3 g3_g7_3 k3_g8_0 g3_g8_0 k3_g8_1 g3_g8_1 k3_g8_2 g3_g8_2 k3_g8_3 g3_g8_3 B3 z3; intro f hf; have u31 : f 31 = (.bool false) := (by rw [← hf]; rfl); clear hf; rintro w' ⟨h0, h1, h2, h3, h4, h5, h6, h7, h8, h9, h10, h11, h12, h13, h14, h15, h16, h17, h18, h19, h20, h21, h22, h23, h24, h25, h26, h27, h28, h29, h30, h31⟩; go_simp; try exact IntWalk.i64_in _ (by omega)
  refine obe_val (by rfl) ?_ ?_
  · clear k3_b3_0 g3_b3_0 k3_b3_1 g3_b3_1 k3_b3_2 g3_b3_2 k3_b3_3 g3_b3_3 k3_b4_0 g3_b4_0 k3_b4_1 g3_b4_1 k3_b4_2 g3_b4_2 k3_b4_3 g3_b4_3 k3_g7_0 g3_g7_0 k3_g7_1 g3_g7_1 k3_g7_2 g3_g7_2 k3_g7_3 g3_g7_3 k3_g8_0 g3_g8_0 k3_g8_1 g3_g8_1 k3_g8_2 g3_g8_2 k3_g8_3 g3_g8_3 B3 z3; intro f hf; have u4 : f 4 = (.pointer (some ⟨w.heap.size + 1, 0, none⟩)) := (by rw [← hf]; rfl); clear hf; rintro w' ⟨h0, h1, h2, h3, h4, h5, h6, h7, h8, h9, h10, h11, h12, h13, h14, h15, h16, h17, h18, h19, h20, h21, h22, h23, h24, h25, h26, h27, h28, h29, h30, h31⟩; go_simp; try exact IntWalk.i64_in _ (by omega)
  refine obe_val (by rfl) ?_ ?_
  · clear k3_b3_0 g3_b3_0 k3_b3_1 g3_b3_1 k3_b3_2 g3_b3_2 k3_b3_3 g3_b3_3 k3_b4_0 g3_b4_0 k3_b4_1 g3_b4_1 k3_b4_2 g3_b4_2 k3_b4_3 g3_b4_3 k3_g7_0 g3_g7_0 k3_g7_1 g3_g7_1 k3_g7_2 g3_g7_2 k3_g7_3 g3_g7_3 k3_g8_0 g3_g8_0 k3_g8_1 g3_g8_1 k3_g8_2 g3_g8_2 k3_g8_3 g3_g8_3 B3 z3; intro f hf; have u8 : f 8 = (.pointer (some ⟨g8, 0, none⟩)) := (by rw [← hf]; rfl); clear hf; rintro w' ⟨h0, h1, h2, h3, h4, h5, h6, h7, h8, h9, h10, h11, h12, h13, h14, h15, h16, h17, h18, h19, h20, h21, h22, h23, h24, h25, h26, h27, h28, h29, h30, h31⟩; go_simp; try exact IntWalk.i64_in _ (by omega)
  refine obe_call (by rfl) ?_ ?_ ?_
  · clear k3_b3_0 g3_b3_0 k3_b3_1 g3_b3_1 k3_b3_2 g3_b3_2 k3_b3_3 g3_b3_3 k3_b4_0 g3_b4_0 k3_b4_1 g3_b4_1 k3_b4_2 g3_b4_2 k3_b4_3 g3_b4_3 k3_g7_0 g3_g7_0 k3_g7_1 g3_g7_1 k3_g7_2 g3_g7_2 k3_g7_3 g3_g7_3 k3_g8_0 g3_g8_0 k3_g8_1 g3_g8_1 k3_g8_2 g3_g8_2 k3_g8_3 g3_g8_3 B3 z3; intro f hf; have u33 : f 33 = (.agg #[.int .i64 s, .int .i64 t, .int .i64 u, .int .i64 v]) := (by rw [← hf]; rfl); have u34 : f 34 = (.agg #[.int .i64 U0, .int .i64 U1, .int .i64 U2, .int .i64 U3]) := (by rw [← hf]; rfl); clear hf; intro w' _; simp only [execOp, resolve, invoke, rhoF_tmp, rhoF_func, rhoF_const, u33, u34, List.map_toArray, List.map_cons, List.map_nil]; go_simp
  · clear k3_b3_0 g3_b3_0 k3_b3_1 g3_b3_1 k3_b3_2 g3_b3_2 k3_b3_3 g3_b3_3 k3_b4_0 g3_b4_0 k3_b4_1 g3_b4_1 k3_b4_2 g3_b4_2 k3_b4_3 g3_b4_3 k3_g7_0 g3_g7_0 k3_g7_1 g3_g7_1 k3_g7_2 g3_g7_2 k3_g7_3 g3_g7_3 k3_g8_0 g3_g8_0 k3_g8_1 g3_g8_1 k3_g8_2 g3_g8_2 k3_g8_3 g3_g8_3 B3 z3; rintro w' ⟨h0, h1, h2, h3, h4, h5, h6, h7, h8, h9, h10, h11, h12, h13, h14, h15, h16, h17, h18, h19, h20, h21, h22, h23, h24, h25, h26, h27, h28, h29, h30, h31⟩; exact cw3 _
  refine obe_val (by rfl) ?_ ?_
  · clear k3_b3_0 g3_b3_0 k3_b3_1 g3_b3_1 k3_b3_2 g3_b3_2 k3_b3_3 g3_b3_3 k3_b4_0 g3_b4_0 k3_b4_1 g3_b4_1 k3_b4_2 g3_b4_2 k3_b4_3 g3_b4_3 k3_g7_0 g3_g7_0 k3_g7_1 g3_g7_1 k3_g7_2 g3_g7_2 k3_g7_3 g3_g7_3 k3_g8_0 g3_g8_0 k3_g8_1 g3_g8_1 k3_g8_2 g3_g8_2 k3_g8_3 g3_g8_3 B3 z3; intro f hf; have u35 : f 35 = (.bool true) := (by rw [← hf]; rfl); clear hf; rintro w' ⟨h0, h1, h2, h3, h4, h5, h6, h7, h8, h9, h10, h11, h12, h13, h14, h15, h16, h17, h18, h19, h20, h21, h22, h23, h24, h25, h26, h27, h28, h29, h30, h31⟩; go_simp; try exact IntWalk.i64_in _ (by omega)
  refine obe_val (by rfl) ?_ ?_
  · clear k3_b3_0 g3_b3_0 k3_b3_1 g3_b3_1 k3_b3_2 g3_b3_2 k3_b3_3 g3_b3_3 k3_b4_0 g3_b4_0 k3_b4_1 g3_b4_1 k3_b4_2 g3_b4_2 k3_b4_3 g3_b4_3 k3_g7_0 g3_g7_0 k3_g7_1 g3_g7_1 k3_g7_2 g3_g7_2 k3_g7_3 g3_g7_3 k3_g8_0 g3_g8_0 k3_g8_1 g3_g8_1 k3_g8_2 g3_g8_2 k3_g8_3 g3_g8_3 B3 z3; intro f hf; have u32 : f 32 = (.bool false) := (by rw [← hf]; rfl); have u36 : f 36 = (.bool false) := (by rw [← hf]; rfl); clear hf; rintro w' ⟨h0, h1, h2, h3, h4, h5, h6, h7, h8, h9, h10, h11, h12, h13, h14, h15, h16, h17, h18, h19, h20, h21, h22, h23, h24, h25, h26, h27, h28, h29, h30, h31⟩; go_simp; try exact IntWalk.i64_in _ (by omega)
  refine obe_val (by rfl) ?_ ?_
  · clear k3_b3_0 g3_b3_0 k3_b3_1 g3_b3_1 k3_b3_2 g3_b3_2 k3_b3_3 g3_b3_3 k3_b4_0 g3_b4_0 k3_b4_1 g3_b4_1 k3_b4_2 g3_b4_2 k3_b4_3 g3_b4_3 k3_g7_0 g3_g7_0 k3_g7_1 g3_g7_1 k3_g7_2 g3_g7_2 k3_g7_3 g3_g7_3 k3_g8_0 g3_g8_0 k3_g8_1 g3_g8_1 k3_g8_2 g3_g8_2 k3_g8_3 g3_g8_3 B3 z3; intro f hf; have u37 : f 37 = (.bool false) := (by rw [← hf]; rfl); clear hf; rintro w' ⟨h0, h1, h2, h3, h4, h5, h6, h7, h8, h9, h10, h11, h12, h13, h14, h15, h16, h17, h18, h19, h20, h21, h22, h23, h24, h25, h26, h27, h28, h29, h30, h31⟩; go_simp; try exact IntWalk.i64_in _ (by omega)
  refine obe_val (by rfl) ?_ ?_
  · clear k3_b3_0 g3_b3_0 k3_b3_1 g3_b3_1 k3_b3_2 g3_b3_2 k3_b3_3 g3_b3_3 k3_b4_0 g3_b4_0 k3_b4_1 g3_b4_1 k3_b4_2 g3_b4_2 k3_b4_3 g3_b4_3 k3_g7_0 g3_g7_0 k3_g7_1 g3_g7_1 k3_g7_2 g3_g7_2 k3_g7_3 g3_g7_3 k3_g8_0 g3_g8_0 k3_g8_1 g3_g8_1 k3_g8_2 g3_g8_2 k3_g8_3 g3_g8_3 B3 z3; intro f hf; have u4 : f 4 = (.pointer (some ⟨w.heap.size + 1, 0, none⟩)) := (by rw [← hf]; rfl); clear hf; rintro w' ⟨h0, h1, h2, h3, h4, h5, h6, h7, h8, h9, h10, h11, h12, h13, h14, h15, h16, h17, h18, h19, h20, h21, h22, h23, h24, h25, h26, h27, h28, h29, h30, h31⟩; go_simp; try exact IntWalk.i64_in _ (by omega)
  refine obe_val (by rfl) ?_ ?_
  · clear k3_b3_0 g3_b3_0 k3_b3_1 g3_b3_1 k3_b3_2 g3_b3_2 k3_b3_3 g3_b3_3 k3_b4_0 g3_b4_0 k3_b4_1 g3_b4_1 k3_b4_2 g3_b4_2 k3_b4_3 g3_b4_3 k3_g7_0 g3_g7_0 k3_g7_1 g3_g7_1 k3_g7_2 g3_g7_2 k3_g7_3 g3_g7_3 k3_g8_0 g3_g8_0 k3_g8_1 g3_g8_1 k3_g8_2 g3_g8_2 k3_g8_3 g3_g8_3 B3 z3; intro f hf; have u3 : f 3 = (.pointer (some ⟨w.heap.size, 0, none⟩)) := (by rw [← hf]; rfl); clear hf; rintro w' ⟨h0, h1, h2, h3, h4, h5, h6, h7, h8, h9, h10, h11, h12, h13, h14, h15, h16, h17, h18, h19, h20, h21, h22, h23, h24, h25, h26, h27, h28, h29, h30, h31⟩; go_simp; try exact IntWalk.i64_in _ (by omega)
  refine obe_call (by rfl) ?_ ?_ ?_
  · clear k3_b3_0 g3_b3_0 k3_b3_1 g3_b3_1 k3_b3_2 g3_b3_2 k3_b3_3 g3_b3_3 k3_b4_0 g3_b4_0 k3_b4_1 g3_b4_1 k3_b4_2 g3_b4_2 k3_b4_3 g3_b4_3 k3_g7_0 g3_g7_0 k3_g7_1 g3_g7_1 k3_g7_2 g3_g7_2 k3_g7_3 g3_g7_3 k3_g8_0 g3_g8_0 k3_g8_1 g3_g8_1 k3_g8_2 g3_g8_2 k3_g8_3 g3_g8_3 B3 z3; intro f hf; have u39 : f 39 = (.agg #[.int .i64 s, .int .i64 t, .int .i64 u, .int .i64 v]) := (by rw [← hf]; rfl); have u40 : f 40 = (.agg #[.int .i64 a, .int .i64 b, .int .i64 c, .int .i64 d]) := (by rw [← hf]; rfl); clear hf; intro w' _; simp only [execOp, resolve, invoke, rhoF_tmp, rhoF_func, rhoF_const, u39, u40, List.map_toArray, List.map_cons, List.map_nil]; go_simp
  · clear k3_b3_0 g3_b3_0 k3_b3_1 g3_b3_1 k3_b3_2 g3_b3_2 k3_b3_3 g3_b3_3 k3_b4_0 g3_b4_0 k3_b4_1 g3_b4_1 k3_b4_2 g3_b4_2 k3_b4_3 g3_b4_3 k3_g7_0 g3_g7_0 k3_g7_1 g3_g7_1 k3_g7_2 g3_g7_2 k3_g7_3 g3_g7_3 k3_g8_0 g3_g8_0 k3_g8_1 g3_g8_1 k3_g8_2 g3_g8_2 k3_g8_3 g3_g8_3 B3 z3; rintro w' ⟨h0, h1, h2, h3, h4, h5, h6, h7, h8, h9, h10, h11, h12, h13, h14, h15, h16, h17, h18, h19, h20, h21, h22, h23, h24, h25, h26, h27, h28, h29, h30, h31⟩; exact cu2 _
  refine obe_val (by rfl) ?_ ?_
  · clear k3_b3_0 g3_b3_0 k3_b3_1 g3_b3_1 k3_b3_2 g3_b3_2 k3_b3_3 g3_b3_3 k3_b4_0 g3_b4_0 k3_b4_1 g3_b4_1 k3_b4_2 g3_b4_2 k3_b4_3 g3_b4_3 k3_g7_0 g3_g7_0 k3_g7_1 g3_g7_1 k3_g7_2 g3_g7_2 k3_g7_3 g3_g7_3 k3_g8_0 g3_g8_0 k3_g8_1 g3_g8_1 k3_g8_2 g3_g8_2 k3_g8_3 g3_g8_3 B3 z3; intro f hf; have u8 : f 8 = (.pointer (some ⟨g8, 0, none⟩)) := (by rw [← hf]; rfl); clear hf; rintro w' ⟨h0, h1, h2, h3, h4, h5, h6, h7, h8, h9, h10, h11, h12, h13, h14, h15, h16, h17, h18, h19, h20, h21, h22, h23, h24, h25, h26, h27, h28, h29, h30, h31⟩; go_simp; try exact IntWalk.i64_in _ (by omega)
  refine obe_val (by rfl) ?_ ?_
  · clear k3_b3_0 g3_b3_0 k3_b3_1 g3_b3_1 k3_b3_2 g3_b3_2 k3_b3_3 g3_b3_3 k3_b4_0 g3_b4_0 k3_b4_1 g3_b4_1 k3_b4_2 g3_b4_2 k3_b4_3 g3_b4_3 k3_g7_0 g3_g7_0 k3_g7_1 g3_g7_1 k3_g7_2 g3_g7_2 k3_g7_3 g3_g7_3 k3_g8_0 g3_g8_0 k3_g8_1 g3_g8_1 k3_g8_2 g3_g8_2 k3_g8_3 g3_g8_3 B3 z3; intro f hf; have u41 : f 41 = (.agg #[.int .i64 U0, .int .i64 U1, .int .i64 U2, .int .i64 U3]) := (by rw [← hf]; rfl); have u42 : f 42 = (.agg #[.int .i64 U0, .int .i64 U1, .int .i64 U2, .int .i64 U3]) := (by rw [← hf]; rfl); clear hf; rintro w' ⟨h0, h1, h2, h3, h4, h5, h6, h7, h8, h9, h10, h11, h12, h13, h14, h15, h16, h17, h18, h19, h20, h21, h22, h23, h24, h25, h26, h27, h28, h29, h30, h31⟩; go_simp; try exact IntWalk.i64_in _ (by omega)
  refine obe_val (by rfl) ?_ ?_
  · clear k3_b3_0 g3_b3_0 k3_b3_1 g3_b3_1 k3_b3_2 g3_b3_2 k3_b3_3 g3_b3_3 k3_b4_0 g3_b4_0 k3_b4_1 g3_b4_1 k3_b4_2 g3_b4_2 k3_b4_3 g3_b4_3 k3_g7_0 g3_g7_0 k3_g7_1 g3_g7_1 k3_g7_2 g3_g7_2 k3_g7_3 g3_g7_3 k3_g8_0 g3_g8_0 k3_g8_1 g3_g8_1 k3_g8_2 g3_g8_2 k3_g8_3 g3_g8_3 B3 z3; intro f hf; have u38 : f 38 = (.bool false) := (by rw [← hf]; rfl); have u43 : f 43 = (.bool false) := (by rw [← hf]; rfl); clear hf; rintro w' ⟨h0, h1, h2, h3, h4, h5, h6, h7, h8, h9, h10, h11, h12, h13, h14, h15, h16, h17, h18, h19, h20, h21, h22, h23, h24, h25, h26, h27, h28, h29, h30, h31⟩; go_simp; try exact IntWalk.i64_in _ (by omega)
  refine obe_val (by rfl) ?_ ?_
  · clear k3_b3_0 g3_b3_0 k3_b3_1 g3_b3_1 k3_b3_2 g3_b3_2 k3_b3_3 g3_b3_3 k3_b4_0 g3_b4_0 k3_b4_1 g3_b4_1 k3_b4_2 g3_b4_2 k3_b4_3 g3_b4_3 k3_g7_0 g3_g7_0 k3_g7_1 g3_g7_1 k3_g7_2 g3_g7_2 k3_g7_3 g3_g7_3 k3_g8_0 g3_g8_0 k3_g8_1 g3_g8_1 k3_g8_2 g3_g8_2 k3_g8_3 g3_g8_3 B3 z3; intro f hf; have u44 : f 44 = (.bool false) := (by rw [← hf]; rfl); clear hf; rintro w' ⟨h0, h1, h2, h3, h4, h5, h6, h7, h8, h9, h10, h11, h12, h13, h14, h15, h16, h17, h18, h19, h20, h21, h22, h23, h24, h25, h26, h27, h28, h29, h30, h31⟩; go_simp; try exact IntWalk.i64_in _ (by omega)
  refine obe_val (by rfl) ?_ ?_
  · clear k3_b3_0 g3_b3_0 k3_b3_1 g3_b3_1 k3_b3_2 g3_b3_2 k3_b3_3 g3_b3_3 k3_b4_0 g3_b4_0 k3_b4_1 g3_b4_1 k3_b4_2 g3_b4_2 k3_b4_3 g3_b4_3 k3_g7_0 g3_g7_0 k3_g7_1 g3_g7_1 k3_g7_2 g3_g7_2 k3_g7_3 g3_g7_3 k3_g8_0 g3_g8_0 k3_g8_1 g3_g8_1 k3_g8_2 g3_g8_2 k3_g8_3 g3_g8_3 B3 z3; intro f hf; have u4 : f 4 = (.pointer (some ⟨w.heap.size + 1, 0, none⟩)) := (by rw [← hf]; rfl); clear hf; rintro w' ⟨h0, h1, h2, h3, h4, h5, h6, h7, h8, h9, h10, h11, h12, h13, h14, h15, h16, h17, h18, h19, h20, h21, h22, h23, h24, h25, h26, h27, h28, h29, h30, h31⟩; go_simp; try exact IntWalk.i64_in _ (by omega)
  refine obe_val (by rfl) ?_ ?_
  · clear k3_b3_0 g3_b3_0 k3_b3_1 g3_b3_1 k3_b3_2 g3_b3_2 k3_b3_3 g3_b3_3 k3_b4_0 g3_b4_0 k3_b4_1 g3_b4_1 k3_b4_2 g3_b4_2 k3_b4_3 g3_b4_3 k3_g7_0 g3_g7_0 k3_g7_1 g3_g7_1 k3_g7_2 g3_g7_2 k3_g7_3 g3_g7_3 k3_g8_0 g3_g8_0 k3_g8_1 g3_g8_1 k3_g8_2 g3_g8_2 k3_g8_3 g3_g8_3 B3 z3; intro f hf; have u3 : f 3 = (.pointer (some ⟨w.heap.size, 0, none⟩)) := (by rw [← hf]; rfl); clear hf; rintro w' ⟨h0, h1, h2, h3, h4, h5, h6, h7, h8, h9, h10, h11, h12, h13, h14, h15, h16, h17, h18, h19, h20, h21, h22, h23, h24, h25, h26, h27, h28, h29, h30, h31⟩; go_simp; try exact IntWalk.i64_in _ (by omega)
  refine obe_call (by rfl) ?_ ?_ ?_
  · clear k3_b3_0 g3_b3_0 k3_b3_1 g3_b3_1 k3_b3_2 g3_b3_2 k3_b3_3 g3_b3_3 k3_b4_0 g3_b4_0 k3_b4_1 g3_b4_1 k3_b4_2 g3_b4_2 k3_b4_3 g3_b4_3 k3_g7_0 g3_g7_0 k3_g7_1 g3_g7_1 k3_g7_2 g3_g7_2 k3_g7_3 g3_g7_3 k3_g8_0 g3_g8_0 k3_g8_1 g3_g8_1 k3_g8_2 g3_g8_2 k3_g8_3 g3_g8_3 B3 z3; intro f hf; have u46 : f 46 = (.agg #[.int .i64 s, .int .i64 t, .int .i64 u, .int .i64 v]) := (by rw [← hf]; rfl); have u47 : f 47 = (.agg #[.int .i64 a, .int .i64 b, .int .i64 c, .int .i64 d]) := (by rw [← hf]; rfl); clear hf; intro w' _; simp only [execOp, resolve, invoke, rhoF_tmp, rhoF_func, rhoF_const, u46, u47, List.map_toArray, List.map_cons, List.map_nil]; go_simp
  · clear k3_b3_0 g3_b3_0 k3_b3_1 g3_b3_1 k3_b3_2 g3_b3_2 k3_b3_3 g3_b3_3 k3_b4_0 g3_b4_0 k3_b4_1 g3_b4_1 k3_b4_2 g3_b4_2 k3_b4_3 g3_b4_3 k3_g7_0 g3_g7_0 k3_g7_1 g3_g7_1 k3_g7_2 g3_g7_2 k3_g7_3 g3_g7_3 k3_g8_0 g3_g8_0 k3_g8_1 g3_g8_1 k3_g8_2 g3_g8_2 k3_g8_3 g3_g8_3 B3 z3; rintro w' ⟨h0, h1, h2, h3, h4, h5, h6, h7, h8, h9, h10, h11, h12, h13, h14, h15, h16, h17, h18, h19, h20, h21, h22, h23, h24, h25, h26, h27, h28, h29, h30, h31⟩; exact ci2 _
  refine obe_val (by rfl) ?_ ?_
  · clear k3_b3_0 g3_b3_0 k3_b3_1 g3_b3_1 k3_b3_2 g3_b3_2 k3_b3_3 g3_b3_3 k3_b4_0 g3_b4_0 k3_b4_1 g3_b4_1 k3_b4_2 g3_b4_2 k3_b4_3 g3_b4_3 k3_g7_0 g3_g7_0 k3_g7_1 g3_g7_1 k3_g7_2 g3_g7_2 k3_g7_3 g3_g7_3 k3_g8_0 g3_g8_0 k3_g8_1 g3_g8_1 k3_g8_2 g3_g8_2 k3_g8_3 g3_g8_3 B3 z3; intro f hf; have u7 : f 7 = (.pointer (some ⟨g7, 0, none⟩)) := (by rw [← hf]; rfl); clear hf; rintro w' ⟨h0, h1, h2, h3, h4, h5, h6, h7, h8, h9, h10, h11, h12, h13, h14, h15, h16, h17, h18, h19, h20, h21, h22, h23, h24, h25, h26, h27, h28, h29, h30, h31⟩; go_simp; try exact IntWalk.i64_in _ (by omega)
  refine obe_val (by rfl) ?_ ?_
  · clear k3_b3_0 g3_b3_0 k3_b3_1 g3_b3_1 k3_b3_2 g3_b3_2 k3_b3_3 g3_b3_3 k3_b4_0 g3_b4_0 k3_b4_1 g3_b4_1 k3_b4_2 g3_b4_2 k3_b4_3 g3_b4_3 k3_g7_0 g3_g7_0 k3_g7_1 g3_g7_1 k3_g7_2 g3_g7_2 k3_g7_3 g3_g7_3 k3_g8_0 g3_g8_0 k3_g8_1 g3_g8_1 k3_g8_2 g3_g8_2 k3_g8_3 g3_g8_3 B3 z3; intro f hf; have u48 : f 48 = (.agg #[.int .i64 M0, .int .i64 M1, .int .i64 M2, .int .i64 M3]) := (by rw [← hf]; rfl); have u49 : f 49 = (.agg #[.int .i64 M0, .int .i64 M1, .int .i64 M2, .int .i64 M3]) := (by rw [← hf]; rfl); clear hf; rintro w' ⟨h0, h1, h2, h3, h4, h5, h6, h7, h8, h9, h10, h11, h12, h13, h14, h15, h16, h17, h18, h19, h20, h21, h22, h23, h24, h25, h26, h27, h28, h29, h30, h31⟩; go_simp; try exact IntWalk.i64_in _ (by omega)
  refine obe_val (by rfl) ?_ ?_
  · clear k3_b3_0 g3_b3_0 k3_b3_1 g3_b3_1 k3_b3_2 g3_b3_2 k3_b3_3 g3_b3_3 k3_b4_0 g3_b4_0 k3_b4_1 g3_b4_1 k3_b4_2 g3_b4_2 k3_b4_3 g3_b4_3 k3_g7_0 g3_g7_0 k3_g7_1 g3_g7_1 k3_g7_2 g3_g7_2 k3_g7_3 g3_g7_3 k3_g8_0 g3_g8_0 k3_g8_1 g3_g8_1 k3_g8_2 g3_g8_2 k3_g8_3 g3_g8_3 B3 z3; intro f hf; have u45 : f 45 = (.bool false) := (by rw [← hf]; rfl); have u50 : f 50 = (.bool false) := (by rw [← hf]; rfl); clear hf; rintro w' ⟨h0, h1, h2, h3, h4, h5, h6, h7, h8, h9, h10, h11, h12, h13, h14, h15, h16, h17, h18, h19, h20, h21, h22, h23, h24, h25, h26, h27, h28, h29, h30, h31⟩; go_simp; try exact IntWalk.i64_in _ (by omega)
  refine obe_nil ?_
  rintro w4 ⟨h0, h1, h2, h3, h4, h5, h6, h7, h8, h9, h10, h11, h12, h13, h14, h15, h16, h17, h18, h19, h20, h21, h22, h23, h24, h25, h26, h27, h28, h29, h30, h31⟩ hb4 hF
  (try simp only [List.nil_append, List.append_nil, List.cons_append] at hF)
  simp only [puts, putD, Act.put, List.setIfInBounds_toArray, List.set_cons_zero, List.set_cons_succ]
  clear hF
  have k4_b3_0 := bcs hb4 k3_b3_0
  have g4_b3_0 := bfs hb4 k3_b3_0 g3_b3_0
  have k4_b3_1 := bcs hb4 k3_b3_1
  have g4_b3_1 := bfs hb4 k3_b3_1 g3_b3_1
  have k4_b3_2 := bcs hb4 k3_b3_2
  have g4_b3_2 := bfs hb4 k3_b3_2 g3_b3_2
  have k4_b3_3 := bcs hb4 k3_b3_3
  have g4_b3_3 := bfs hb4 k3_b3_3 g3_b3_3
  have k4_b4_0 := bcs hb4 k3_b4_0
  have g4_b4_0 := bfs hb4 k3_b4_0 g3_b4_0
  have k4_b4_1 := bcs hb4 k3_b4_1
  have g4_b4_1 := bfs hb4 k3_b4_1 g3_b4_1
  have k4_b4_2 := bcs hb4 k3_b4_2
  have g4_b4_2 := bfs hb4 k3_b4_2 g3_b4_2
  have k4_b4_3 := bcs hb4 k3_b4_3
  have g4_b4_3 := bfs hb4 k3_b4_3 g3_b4_3
  have k4_g7_0 := bcs hb4 k3_g7_0
  have g4_g7_0 := bfs hb4 k3_g7_0 g3_g7_0
  have k4_g7_1 := bcs hb4 k3_g7_1
  have g4_g7_1 := bfs hb4 k3_g7_1 g3_g7_1
  have k4_g7_2 := bcs hb4 k3_g7_2
  have g4_g7_2 := bfs hb4 k3_g7_2 g3_g7_2
  have k4_g7_3 := bcs hb4 k3_g7_3
  have g4_g7_3 := bfs hb4 k3_g7_3 g3_g7_3
  have k4_g8_0 := bcs hb4 k3_g8_0
  have g4_g8_0 := bfs hb4 k3_g8_0 g3_g8_0
  have k4_g8_1 := bcs hb4 k3_g8_1
  have g4_g8_1 := bfs hb4 k3_g8_1 g3_g8_1
  have k4_g8_2 := bcs hb4 k3_g8_2
  have g4_g8_2 := bfs hb4 k3_g8_2 g3_g8_2
  have k4_g8_3 := bcs hb4 k3_g8_3
  have g4_g8_3 := bfs hb4 k3_g8_3 g3_g8_3
  clear h0 h1 h2 h3 h4 h5 h6 h7 h8 h9 h10 h11 h12 h13 h14 h15 h16 h17 h18 h19 h20 h21 h22 h23 h24 h25 h26 h27 h28 h29 h30 h31
  have B4 := bel_step B3 hb4
  have z4 := Nat.le_trans z3 hb4.size
  clear hb4
  (try clear B3)
  (try clear z3)
  (try clear k3_b3_0)
  (try clear g3_b3_0)
  (try clear k3_b3_1)
  (try clear g3_b3_1)
  (try clear k3_b3_2)
  (try clear g3_b3_2)
  (try clear k3_b3_3)
  (try clear g3_b3_3)
  (try clear k3_b4_0)
  (try clear g3_b4_0)
  (try clear k3_b4_1)
  (try clear g3_b4_1)
  (try clear k3_b4_2)
  (try clear g3_b4_2)
  (try clear k3_b4_3)
  (try clear g3_b4_3)
  (try clear k3_g7_0)
  (try clear g3_g7_0)
  (try clear k3_g7_1)
  (try clear g3_g7_1)
  (try clear k3_g7_2)
  (try clear g3_g7_2)
  (try clear k3_g7_3)
  (try clear g3_g7_3)
  (try clear k3_g8_0)
  (try clear g3_g8_0)
  (try clear k3_g8_1)
  (try clear g3_g8_1)
  (try clear k3_g8_2)
  (try clear g3_g8_2)
  (try clear k3_g8_3)
  (try clear g3_g8_3)
  (try clear q3_b3)
  (try clear x3_b3)
  (try clear y3_b3)
  (try clear q3_b4)
  (try clear x3_b4)
  (try clear y3_b4)
  (try clear q3_g7)
  (try clear x3_g7)
  (try clear y3_g7)
  (try clear q3_g8)
  (try clear x3_g8)
  (try clear y3_g8)
  have q4_b3 : w.heap.size < w4.heap.size := qlt k4_b3_0
  have x4_b3 : ¬ w.heap.size = w4.heap.size := qne k4_b3_0
  have y4_b3 : ¬ w4.heap.size = w.heap.size := fun h => qne k4_b3_0 h.symm
  have q4_b4 : w.heap.size + 1 < w4.heap.size := qlt k4_b4_0
  have x4_b4 : ¬ w.heap.size + 1 = w4.heap.size := qne k4_b4_0
  have y4_b4 : ¬ w4.heap.size = w.heap.size + 1 := fun h => qne k4_b4_0 h.symm
  have q4_g7 : g7 < w4.heap.size := qlt k4_g7_0
  have x4_g7 : ¬ g7 = w4.heap.size := qne k4_g7_0
  have y4_g7 : ¬ w4.heap.size = g7 := fun h => qne k4_g7_0 h.symm
  have q4_g8 : g8 < w4.heap.size := qlt k4_g8_0
  have x4_g8 : ¬ g8 = w4.heap.size := qne k4_g8_0
  have y4_g8 : ¬ w4.heap.size = g8 := fun h => qne k4_g8_0 h.symm
  unfold wpList
  go_wp2_with (first | (go_at_call 27; (with_reducible refine (co _).mono ?_); rintro e w5 ⟨rfl, hb5⟩; have k5_b3_0 : w5.cell? ⟨w.heap.size, 0, none⟩ = some (.int .i64 a) := bcs hb5 (by go_simp); have g5_b3_0 : w5.frozen? ⟨w.heap.size, 0, none⟩ = false := bfs hb5 (v := .int .i64 a) (by go_simp) (by go_simp); have k5_b3_1 : w5.cell? ⟨w.heap.size, 1, none⟩ = some (.int .i64 b) := bcs hb5 (by go_simp); have g5_b3_1 : w5.frozen? ⟨w.heap.size, 1, none⟩ = false := bfs hb5 (v := .int .i64 b) (by go_simp) (by go_simp); have k5_b3_2 : w5.cell? ⟨w.heap.size, 2, none⟩ = some (.int .i64 c) := bcs hb5 (by go_simp); have g5_b3_2 : w5.frozen? ⟨w.heap.size, 2, none⟩ = false := bfs hb5 (v := .int .i64 c) (by go_simp) (by go_simp); have k5_b3_3 : w5.cell? ⟨w.heap.size, 3, none⟩ = some (.int .i64 d) := bcs hb5 (by go_simp); have g5_b3_3 : w5.frozen? ⟨w.heap.size, 3, none⟩ = false := bfs hb5 (v := .int .i64 d) (by go_simp) (by go_simp); have k5_b4_0 : w5.cell? ⟨w.heap.size + 1, 0, none⟩ = some (.int .i64 s) := bcs hb5 (by go_simp); have g5_b4_0 : w5.frozen? ⟨w.heap.size + 1, 0, none⟩ = false := bfs hb5 (v := .int .i64 s) (by go_simp) (by go_simp); have k5_b4_1 : w5.cell? ⟨w.heap.size + 1, 1, none⟩ = some (.int .i64 t) := bcs hb5 (by go_simp); have g5_b4_1 : w5.frozen? ⟨w.heap.size + 1, 1, none⟩ = false := bfs hb5 (v := .int .i64 t) (by go_simp) (by go_simp); have k5_b4_2 : w5.cell? ⟨w.heap.size + 1, 2, none⟩ = some (.int .i64 u) := bcs hb5 (by go_simp); have g5_b4_2 : w5.frozen? ⟨w.heap.size + 1, 2, none⟩ = false := bfs hb5 (v := .int .i64 u) (by go_simp) (by go_simp); have k5_b4_3 : w5.cell? ⟨w.heap.size + 1, 3, none⟩ = some (.int .i64 v) := bcs hb5 (by go_simp); have g5_b4_3 : w5.frozen? ⟨w.heap.size + 1, 3, none⟩ = false := bfs hb5 (v := .int .i64 v) (by go_simp) (by go_simp); have k5_g7_0 : w5.cell? ⟨g7, 0, none⟩ = some (.int .i64 M0) := bcs hb5 (by go_simp); have g5_g7_0 : w5.frozen? ⟨g7, 0, none⟩ = false := bfs hb5 (v := .int .i64 M0) (by go_simp) (by go_simp); have k5_g7_1 : w5.cell? ⟨g7, 1, none⟩ = some (.int .i64 M1) := bcs hb5 (by go_simp); have g5_g7_1 : w5.frozen? ⟨g7, 1, none⟩ = false := bfs hb5 (v := .int .i64 M1) (by go_simp) (by go_simp); have k5_g7_2 : w5.cell? ⟨g7, 2, none⟩ = some (.int .i64 M2) := bcs hb5 (by go_simp); have g5_g7_2 : w5.frozen? ⟨g7, 2, none⟩ = false := bfs hb5 (v := .int .i64 M2) (by go_simp) (by go_simp); have k5_g7_3 : w5.cell? ⟨g7, 3, none⟩ = some (.int .i64 M3) := bcs hb5 (by go_simp); have g5_g7_3 : w5.frozen? ⟨g7, 3, none⟩ = false := bfs hb5 (v := .int .i64 M3) (by go_simp) (by go_simp); have k5_g8_0 : w5.cell? ⟨g8, 0, none⟩ = some (.int .i64 U0) := bcs hb5 (by go_simp); have g5_g8_0 : w5.frozen? ⟨g8, 0, none⟩ = false := bfs hb5 (v := .int .i64 U0) (by go_simp) (by go_simp); have k5_g8_1 : w5.cell? ⟨g8, 1, none⟩ = some (.int .i64 U1) := bcs hb5 (by go_simp); have g5_g8_1 : w5.frozen? ⟨g8, 1, none⟩ = false := bfs hb5 (v := .int .i64 U1) (by go_simp) (by go_simp); have k5_g8_2 : w5.cell? ⟨g8, 2, none⟩ = some (.int .i64 U2) := bcs hb5 (by go_simp); have g5_g8_2 : w5.frozen? ⟨g8, 2, none⟩ = false := bfs hb5 (v := .int .i64 U2) (by go_simp) (by go_simp); have k5_g8_3 : w5.cell? ⟨g8, 3, none⟩ = some (.int .i64 U3) := bcs hb5 (by go_simp); have g5_g8_3 : w5.frozen? ⟨g8, 3, none⟩ = false := bfs hb5 (v := .int .i64 U3) (by go_simp) (by go_simp); have q5_b3 : w.heap.size < w5.heap.size := qlt k5_b3_0; have x5_b3 : ¬ w.heap.size = w5.heap.size := qne k5_b3_0; have y5_b3 : ¬ w5.heap.size = w.heap.size := fun h => qne k5_b3_0 h.symm; have q5_b4 : w.heap.size + 1 < w5.heap.size := qlt k5_b4_0; have x5_b4 : ¬ w.heap.size + 1 = w5.heap.size := qne k5_b4_0; have y5_b4 : ¬ w5.heap.size = w.heap.size + 1 := fun h => qne k5_b4_0 h.symm; have q5_g7 : g7 < w5.heap.size := qlt k5_g7_0; have x5_g7 : ¬ g7 = w5.heap.size := qne k5_g7_0; have y5_g7 : ¬ w5.heap.size = g7 := fun h => qne k5_g7_0 h.symm; have q5_g8 : g8 < w5.heap.size := qlt k5_g8_0; have x5_g8 : ¬ g8 = w5.heap.size := qne k5_g8_0; have y5_g8 : ¬ w5.heap.size = g8 := fun h => qne k5_g8_0 h.symm; have B5 : Below w.heap.size w w5 := bel_step (by repeat (first | with_reducible exact Below.refl _ _ | with_reducible exact B4 | with_reducible apply below_drewN | with_reducible apply Below.drew | (with_reducible refine Below.alloc ?_ (by first | (simp; done) | (simp; omega) | omega) _) | (with_reducible refine Below.setCell ?_ (by first | (simp; done) | (simp; omega) | omega) _))) hb5; have z5 : w.heap.size + 1 + 1 ≤ w5.heap.size := Nat.le_trans (by first | with_reducible assumption | (simp; done) | (simp; omega)) hb5.size; clear hb5; (try clear k4_b3_0); (try clear g4_b3_0); (try clear k4_b3_1); (try clear g4_b3_1); (try clear k4_b3_2); (try clear g4_b3_2); (try clear k4_b3_3); (try clear g4_b3_3); (try clear k4_b4_0); (try clear g4_b4_0); (try clear k4_b4_1); (try clear g4_b4_1); (try clear k4_b4_2); (try clear g4_b4_2); (try clear k4_b4_3); (try clear g4_b4_3); (try clear k4_g7_0); (try clear g4_g7_0); (try clear k4_g7_1); (try clear g4_g7_1); (try clear k4_g7_2); (try clear g4_g7_2); (try clear k4_g7_3); (try clear g4_g7_3); (try clear k4_g8_0); (try clear g4_g8_0); (try clear k4_g8_1); (try clear g4_g8_1); (try clear k4_g8_2); (try clear g4_g8_2); (try clear k4_g8_3); (try clear g4_g8_3); (try clear B4); (try clear z4); (try clear q4_b3); (try clear x4_b3); (try clear y4_b3); (try clear q4_b4); (try clear x4_b4); (try clear y4_b4); (try clear q4_g7); (try clear x4_g7); (try clear y4_g7); (try clear q4_g8); (try clear x4_g8); (try clear y4_g8)))
  refine wp_region_env (fun w' => w'.cell? ⟨w.heap.size, 0, none⟩ = some (.int .i64 a) ∧ w'.frozen? ⟨w.heap.size, 0, none⟩ = false ∧ w'.cell? ⟨w.heap.size, 1, none⟩ = some (.int .i64 b) ∧ w'.frozen? ⟨w.heap.size, 1, none⟩ = false ∧ w'.cell? ⟨w.heap.size, 2, none⟩ = some (.int .i64 c) ∧ w'.frozen? ⟨w.heap.size, 2, none⟩ = false ∧ w'.cell? ⟨w.heap.size, 3, none⟩ = some (.int .i64 d) ∧ w'.frozen? ⟨w.heap.size, 3, none⟩ = false ∧ w'.cell? ⟨w.heap.size + 1, 0, none⟩ = some (.int .i64 s) ∧ w'.frozen? ⟨w.heap.size + 1, 0, none⟩ = false ∧ w'.cell? ⟨w.heap.size + 1, 1, none⟩ = some (.int .i64 t) ∧ w'.frozen? ⟨w.heap.size + 1, 1, none⟩ = false ∧ w'.cell? ⟨w.heap.size + 1, 2, none⟩ = some (.int .i64 u) ∧ w'.frozen? ⟨w.heap.size + 1, 2, none⟩ = false ∧ w'.cell? ⟨w.heap.size + 1, 3, none⟩ = some (.int .i64 v) ∧ w'.frozen? ⟨w.heap.size + 1, 3, none⟩ = false ∧ w'.cell? ⟨g7, 0, none⟩ = some (.int .i64 M0) ∧ w'.frozen? ⟨g7, 0, none⟩ = false ∧ w'.cell? ⟨g7, 1, none⟩ = some (.int .i64 M1) ∧ w'.frozen? ⟨g7, 1, none⟩ = false ∧ w'.cell? ⟨g7, 2, none⟩ = some (.int .i64 M2) ∧ w'.frozen? ⟨g7, 2, none⟩ = false ∧ w'.cell? ⟨g7, 3, none⟩ = some (.int .i64 M3) ∧ w'.frozen? ⟨g7, 3, none⟩ = false ∧ w'.cell? ⟨g8, 0, none⟩ = some (.int .i64 U0) ∧ w'.frozen? ⟨g8, 0, none⟩ = false ∧ w'.cell? ⟨g8, 1, none⟩ = some (.int .i64 U1) ∧ w'.frozen? ⟨g8, 1, none⟩ = false ∧ w'.cell? ⟨g8, 2, none⟩ = some (.int .i64 U2) ∧ w'.frozen? ⟨g8, 2, none⟩ = false ∧ w'.cell? ⟨g8, 3, none⟩ = some (.int .i64 U3) ∧ w'.frozen? ⟨g8, 3, none⟩ = false ∧ w'.cell? ⟨w5.heap.size, 0, none⟩ = some (.int .i64 G0) ∧ w'.frozen? ⟨w5.heap.size, 0, none⟩ = false ∧ w'.cell? ⟨w5.heap.size, 1, none⟩ = some (.int .i64 G1) ∧ w'.frozen? ⟨w5.heap.size, 1, none⟩ = false ∧ w'.cell? ⟨w5.heap.size, 2, none⟩ = some (.int .i64 G2) ∧ w'.frozen? ⟨w5.heap.size, 2, none⟩ = false ∧ w'.cell? ⟨w5.heap.size, 3, none⟩ = some (.int .i64 G3) ∧ w'.frozen? ⟨w5.heap.size, 3, none⟩ = false) (fun W => W.cell? ⟨w.heap.size, 0, none⟩ = some (.int .i64 a) ∧ W.frozen? ⟨w.heap.size, 0, none⟩ = false ∧ W.cell? ⟨w.heap.size, 1, none⟩ = some (.int .i64 b) ∧ W.frozen? ⟨w.heap.size, 1, none⟩ = false ∧ W.cell? ⟨w.heap.size, 2, none⟩ = some (.int .i64 c) ∧ W.frozen? ⟨w.heap.size, 2, none⟩ = false ∧ W.cell? ⟨w.heap.size, 3, none⟩ = some (.int .i64 d) ∧ W.frozen? ⟨w.heap.size, 3, none⟩ = false ∧ W.cell? ⟨w.heap.size + 1, 0, none⟩ = some (.int .i64 s) ∧ W.frozen? ⟨w.heap.size + 1, 0, none⟩ = false ∧ W.cell? ⟨w.heap.size + 1, 1, none⟩ = some (.int .i64 t) ∧ W.frozen? ⟨w.heap.size + 1, 1, none⟩ = false ∧ W.cell? ⟨w.heap.size + 1, 2, none⟩ = some (.int .i64 u) ∧ W.frozen? ⟨w.heap.size + 1, 2, none⟩ = false ∧ W.cell? ⟨w.heap.size + 1, 3, none⟩ = some (.int .i64 v) ∧ W.frozen? ⟨w.heap.size + 1, 3, none⟩ = false ∧ W.cell? ⟨g7, 0, none⟩ = some (.int .i64 M0) ∧ W.frozen? ⟨g7, 0, none⟩ = false ∧ W.cell? ⟨g7, 1, none⟩ = some (.int .i64 M1) ∧ W.frozen? ⟨g7, 1, none⟩ = false ∧ W.cell? ⟨g7, 2, none⟩ = some (.int .i64 M2) ∧ W.frozen? ⟨g7, 2, none⟩ = false ∧ W.cell? ⟨g7, 3, none⟩ = some (.int .i64 M3) ∧ W.frozen? ⟨g7, 3, none⟩ = false ∧ W.cell? ⟨g8, 0, none⟩ = some (.int .i64 U0) ∧ W.frozen? ⟨g8, 0, none⟩ = false ∧ W.cell? ⟨g8, 1, none⟩ = some (.int .i64 U1) ∧ W.frozen? ⟨g8, 1, none⟩ = false ∧ W.cell? ⟨g8, 2, none⟩ = some (.int .i64 U2) ∧ W.frozen? ⟨g8, 2, none⟩ = false ∧ W.cell? ⟨g8, 3, none⟩ = some (.int .i64 U3) ∧ W.frozen? ⟨g8, 3, none⟩ = false ∧ W.cell? ⟨w5.heap.size, 0, none⟩ = some (.int .i64 G0) ∧ W.frozen? ⟨w5.heap.size, 0, none⟩ = false ∧ W.cell? ⟨w5.heap.size, 1, none⟩ = some (.int .i64 G1) ∧ W.frozen? ⟨w5.heap.size, 1, none⟩ = false ∧ W.cell? ⟨w5.heap.size, 2, none⟩ = some (.int .i64 G2) ∧ W.frozen? ⟨w5.heap.size, 2, none⟩ = false ∧ W.cell? ⟨w5.heap.size, 3, none⟩ = some (.int .i64 G3) ∧ W.frozen? ⟨w5.heap.size, 3, none⟩ = false ∧ Below w.heap.size w W ∧ w.heap.size + 1 + 1 ≤ W.heap.size) 23 79 [.val (.agg #[.int .i64 a, .int .i64 b, .int .i64 c, .int .i64 d]), .val (.agg #[.int .i64 G0, .int .i64 G1, .int .i64 G2, .int .i64 G3]), .call 21 #[.agg #[.int .i64 a, .int .i64 b, .int .i64 c, .int .i64 d], .agg #[.int .i64 G0, .int .i64 G1, .int .i64 G2, .int .i64 G3]] (.bool true), .val (.bool true), .val (.agg #[.int .i64 G0, .int .i64 G1, .int .i64 G2, .int .i64 G3]), .val (.int .i64 nn), .val (.int .i64 (-nn)), .call 27 #[.agg #[.int .i64 G0, .int .i64 G1, .int .i64 G2, .int .i64 G3], .int .i64 (-nn)] (.agg #[.int .i64 P0, .int .i64 P1, .int .i64 P2, .int .i64 P3]), .val (.agg #[.int .i64 a, .int .i64 b, .int .i64 c, .int .i64 d]), .call 21 #[.agg #[.int .i64 P0, .int .i64 P1, .int .i64 P2, .int .i64 P3], .agg #[.int .i64 a, .int .i64 b, .int .i64 c, .int .i64 d]] (.bool true), .val (.bool true), .val (.bool true), .val (.agg #[.int .i64 a, .int .i64 b, .int .i64 c, .int .i64 d]), .val (.int .i64 nn), .val (.int .i64 (-nn)), .call 27 #[.agg #[.int .i64 a, .int .i64 b, .int .i64 c, .int .i64 d], .int .i64 (-nn)] (.agg #[.int .i64 Q0, .int .i64 Q1, .int .i64 Q2, .int .i64 Q3]), .val (.agg #[.int .i64 a, .int .i64 b, .int .i64 c, .int .i64 d]), .call 21 #[.agg #[.int .i64 Q0, .int .i64 Q1, .int .i64 Q2, .int .i64 Q3], .agg #[.int .i64 a, .int .i64 b, .int .i64 c, .int .i64 d]] (.bool true), .val (.bool true), .val (.bool true), .call 20 #[] (.bool true), .val (.bool true), .val (.bool true)] (by kernel_rfl) (by kernel_rfl) rfl (by kernel_rfl) (by rintro w1 w2 ⟨h0, h1, h2, h3, h4, h5, h6, h7, h8, h9, h10, h11, h12, h13, h14, h15, h16, h17, h18, h19, h20, h21, h22, h23, h24, h25, h26, h27, h28, h29, h30, h31, h32, h33, h34, h35, h36, h37, h38, h39⟩ hb; exact ⟨bcs hb h0, bfs hb h0 h1, bcs hb h2, bfs hb h2 h3, bcs hb h4, bfs hb h4 h5, bcs hb h6, bfs hb h6 h7, bcs hb h8, bfs hb h8 h9, bcs hb h10, bfs hb h10 h11, bcs hb h12, bfs hb h12 h13, bcs hb h14, bfs hb h14 h15, bcs hb h16, bfs hb h16 h17, bcs hb h18, bfs hb h18 h19, bcs hb h20, bfs hb h20 h21, bcs hb h22, bfs hb h22 h23, bcs hb h24, bfs hb h24 h25, bcs hb h26, bfs hb h26 h27, bcs hb h28, bfs hb h28 h29, bcs hb h30, bfs hb h30 h31, bcs hb h32, bfs hb h32 h33, bcs hb h34, bfs hb h34 h35, bcs hb h36, bfs hb h36 h37, bcs hb h38, bfs hb h38 h39⟩) ⟨by first | with_reducible assumption | go_simp, by first | with_reducible assumption | go_simp, by first | with_reducible assumption | go_simp, by first | with_reducible assumption | go_simp, by first | with_reducible assumption | go_simp, by first | with_reducible assumption | go_simp, by first | with_reducible assumption | go_simp, by first | with_reducible assumption | go_simp, by first | with_reducible assumption | go_simp, by first | with_reducible assumption | go_simp, by first | with_reducible assumption | go_simp, by first | with_reducible assumption | go_simp, by first | with_reducible assumption | go_simp, by first | with_reducible assumption | go_simp, by first | with_reducible assumption | go_simp, by first | with_reducible assumption | go_simp, by first | with_reducible assumption | go_simp, by first | with_reducible assumption | go_simp, by first | with_reducible assumption | go_simp, by first | with_reducible assumption | go_simp, by first | with_reducible assumption | go_simp, by first | with_reducible assumption | go_simp, by first | with_reducible assumption | go_simp, by first | with_reducible assumption | go_simp, by first | with_reducible assumption | go_simp, by first | with_reducible assumption | go_simp, by first | with_reducible assumption | go_simp, by first | with_reducible assumption | go_simp, by first | with_reducible assumption | go_simp, by first | with_reducible assumption | go_simp, by first | with_reducible assumption | go_simp, by first | with_reducible assumption | go_simp, by first | with_reducible assumption | go_simp, by first | with_reducible assumption | go_simp, by first | with_reducible assumption | go_simp, by first | with_reducible assumption | go_simp, by first | with_reducible assumption | go_simp, by first | with_reducible assumption | go_simp, by first | with_reducible assumption | go_simp, by first | with_reducible assumption | go_simp, by repeat (first | with_reducible exact Below.refl _ _ | with_reducible exact B5 | with_reducible apply below_drewN | with_reducible apply Below.drew | (with_reducible refine Below.alloc ?_ (by first | (simp; done) | (simp; omega) | omega) _) | (with_reducible refine Below.setCell ?_ (by first | (simp; done) | (simp; omega) | omega) _)), by first | with_reducible assumption | (simp; done) | (simp; omega)⟩ ?_ ?_
  · rintro W ⟨k6_b3_0, g6_b3_0, k6_b3_1, g6_b3_1, k6_b3_2, g6_b3_2, k6_b3_3, g6_b3_3, k6_b4_0, g6_b4_0, k6_b4_1, g6_b4_1, k6_b4_2, g6_b4_2, k6_b4_3, g6_b4_3, k6_g7_0, g6_g7_0, k6_g7_1, g6_g7_1, k6_g7_2, g6_g7_2, k6_g7_3, g6_g7_3, k6_g8_0, g6_g8_0, k6_g8_1, g6_g8_1, k6_g8_2, g6_g8_2, k6_g8_3, g6_g8_3, k6_g9_0, g6_g9_0, k6_g9_1, g6_g9_1, k6_g9_2, g6_g9_2, k6_g9_3, g6_g9_3, B6, z6⟩; exact ⟨k6_b3_0, g6_b3_0, k6_b3_1, g6_b3_1, k6_b3_2, g6_b3_2, k6_b3_3, g6_b3_3, k6_b4_0, g6_b4_0, k6_b4_1, g6_b4_1, k6_b4_2, g6_b4_2, k6_b4_3, g6_b4_3, k6_g7_0, g6_g7_0, k6_g7_1, g6_g7_1, k6_g7_2, g6_g7_2, k6_g7_3, g6_g7_3, k6_g8_0, g6_g8_0, k6_g8_1, g6_g8_1, k6_g8_2, g6_g8_2, k6_g8_3, g6_g8_3, k6_g9_0, g6_g9_0, k6_g9_1, g6_g9_1, k6_g9_2, g6_g9_2, k6_g9_3, g6_g9_3⟩
  (try clear B5)
  (try clear z5)
  (try clear k5_b3_0)
  (try clear g5_b3_0)
  (try clear k5_b3_1)
  (try clear g5_b3_1)
  (try clear k5_b3_2)
  (try clear g5_b3_2)
  (try clear k5_b3_3)
  (try clear g5_b3_3)
  (try clear k5_b4_0)
  (try clear g5_b4_0)
  (try clear k5_b4_1)
  (try clear g5_b4_1)
  (try clear k5_b4_2)
  (try clear g5_b4_2)
  (try clear k5_b4_3)
  (try clear g5_b4_3)
  (try clear k5_g7_0)
  (try clear g5_g7_0)
  (try clear k5_g7_1)
  (try clear g5_g7_1)
  (try clear k5_g7_2)
  (try clear g5_g7_2)
  (try clear k5_g7_3)
  (try clear g5_g7_3)
  (try clear k5_g8_0)
  (try clear g5_g8_0)
  (try clear k5_g8_1)
  (try clear g5_g8_1)
  (try clear k5_g8_2)
  (try clear g5_g8_2)
  (try clear k5_g8_3)
  (try clear g5_g8_3)
  (try clear k5_g9_0)
  (try clear g5_g9_0)
  (try clear k5_g9_1)
  (try clear g5_g9_1)
  (try clear k5_g9_2)
  (try clear g5_g9_2)
  (try clear k5_g9_3)
  (try clear g5_g9_3)
  (try clear q5_b3)
  (try clear x5_b3)
  (try clear y5_b3)
  (try clear q5_b4)
  (try clear x5_b4)
  (try clear y5_b4)
  (try clear q5_g7)
  (try clear x5_g7)
  (try clear y5_g7)
  (try clear q5_g8)
  (try clear x5_g8)
  (try clear y5_g8)
  (try clear q5_g9)
  (try clear x5_g9)
  (try clear y5_g9)
  rintro w6 ⟨k6_b3_0, g6_b3_0, k6_b3_1, g6_b3_1, k6_b3_2, g6_b3_2, k6_b3_3, g6_b3_3, k6_b4_0, g6_b4_0, k6_b4_1, g6_b4_1, k6_b4_2, g6_b4_2, k6_b4_3, g6_b4_3, k6_g7_0, g6_g7_0, k6_g7_1, g6_g7_1, k6_g7_2, g6_g7_2, k6_g7_3, g6_g7_3, k6_g8_0, g6_g8_0, k6_g8_1, g6_g8_1, k6_g8_2, g6_g8_2, k6_g8_3, g6_g8_3, k6_g9_0, g6_g9_0, k6_g9_1, g6_g9_1, k6_g9_2, g6_g9_2, k6_g9_3, g6_g9_3, B6, z6⟩ gg
  simp only [List.take_succ_cons, List.take_zero, List.drop_succ_cons, List.drop_zero, List.cons_append, List.nil_append, List.append_nil]
  refine obe_val (by rfl) ?_ ?_
  · clear k6_b3_0 g6_b3_0 k6_b3_1 g6_b3_1 k6_b3_2 g6_b3_2 k6_b3_3 g6_b3_3 k6_b4_0 g6_b4_0 k6_b4_1 g6_b4_1 k6_b4_2 g6_b4_2 k6_b4_3 g6_b4_3 k6_g7_0 g6_g7_0 k6_g7_1 g6_g7_1 k6_g7_2 g6_g7_2 k6_g7_3 g6_g7_3 k6_g8_0 g6_g8_0 k6_g8_1 g6_g8_1 k6_g8_2 g6_g8_2 k6_g8_3 g6_g8_3 k6_g9_0 g6_g9_0 k6_g9_1 g6_g9_1 k6_g9_2 g6_g9_2 k6_g9_3 g6_g9_3 B6 z6; intro f hf; have u3 : f 3 = (.pointer (some ⟨w.heap.size, 0, none⟩)) := (by rw [← hf]; rfl); clear hf; rintro w' ⟨h0, h1, h2, h3, h4, h5, h6, h7, h8, h9, h10, h11, h12, h13, h14, h15, h16, h17, h18, h19, h20, h21, h22, h23, h24, h25, h26, h27, h28, h29, h30, h31, h32, h33, h34, h35, h36, h37, h38, h39⟩; go_simp; try exact IntWalk.i64_in _ (by omega)
  refine obe_val (by rfl) ?_ ?_
  · clear k6_b3_0 g6_b3_0 k6_b3_1 g6_b3_1 k6_b3_2 g6_b3_2 k6_b3_3 g6_b3_3 k6_b4_0 g6_b4_0 k6_b4_1 g6_b4_1 k6_b4_2 g6_b4_2 k6_b4_3 g6_b4_3 k6_g7_0 g6_g7_0 k6_g7_1 g6_g7_1 k6_g7_2 g6_g7_2 k6_g7_3 g6_g7_3 k6_g8_0 g6_g8_0 k6_g8_1 g6_g8_1 k6_g8_2 g6_g8_2 k6_g8_3 g6_g8_3 k6_g9_0 g6_g9_0 k6_g9_1 g6_g9_1 k6_g9_2 g6_g9_2 k6_g9_3 g6_g9_3 B6 z6; intro f hf; have u9 : f 9 = (.pointer (some ⟨w5.heap.size, 0, none⟩)) := (by rw [← hf]; rfl); clear hf; rintro w' ⟨h0, h1, h2, h3, h4, h5, h6, h7, h8, h9, h10, h11, h12, h13, h14, h15, h16, h17, h18, h19, h20, h21, h22, h23, h24, h25, h26, h27, h28, h29, h30, h31, h32, h33, h34, h35, h36, h37, h38, h39⟩; go_simp; try exact IntWalk.i64_in _ (by omega)
  refine obe_call (by rfl) ?_ ?_ ?_
  · clear k6_b3_0 g6_b3_0 k6_b3_1 g6_b3_1 k6_b3_2 g6_b3_2 k6_b3_3 g6_b3_3 k6_b4_0 g6_b4_0 k6_b4_1 g6_b4_1 k6_b4_2 g6_b4_2 k6_b4_3 g6_b4_3 k6_g7_0 g6_g7_0 k6_g7_1 g6_g7_1 k6_g7_2 g6_g7_2 k6_g7_3 g6_g7_3 k6_g8_0 g6_g8_0 k6_g8_1 g6_g8_1 k6_g8_2 g6_g8_2 k6_g8_3 g6_g8_3 k6_g9_0 g6_g9_0 k6_g9_1 g6_g9_1 k6_g9_2 g6_g9_2 k6_g9_3 g6_g9_3 B6 z6; intro f hf; have u57 : f 57 = (.agg #[.int .i64 a, .int .i64 b, .int .i64 c, .int .i64 d]) := (by rw [← hf]; rfl); have u58 : f 58 = (.agg #[.int .i64 G0, .int .i64 G1, .int .i64 G2, .int .i64 G3]) := (by rw [← hf]; rfl); clear hf; intro w' _; simp only [execOp, resolve, invoke, rhoF_tmp, rhoF_func, rhoF_const, u57, u58, List.map_toArray, List.map_cons, List.map_nil]; go_simp
  · clear k6_b3_0 g6_b3_0 k6_b3_1 g6_b3_1 k6_b3_2 g6_b3_2 k6_b3_3 g6_b3_3 k6_b4_0 g6_b4_0 k6_b4_1 g6_b4_1 k6_b4_2 g6_b4_2 k6_b4_3 g6_b4_3 k6_g7_0 g6_g7_0 k6_g7_1 g6_g7_1 k6_g7_2 g6_g7_2 k6_g7_3 g6_g7_3 k6_g8_0 g6_g8_0 k6_g8_1 g6_g8_1 k6_g8_2 g6_g8_2 k6_g8_3 g6_g8_3 k6_g9_0 g6_g9_0 k6_g9_1 g6_g9_1 k6_g9_2 g6_g9_2 k6_g9_3 g6_g9_3 B6 z6; rintro w' ⟨h0, h1, h2, h3, h4, h5, h6, h7, h8, h9, h10, h11, h12, h13, h14, h15, h16, h17, h18, h19, h20, h21, h22, h23, h24, h25, h26, h27, h28, h29, h30, h31, h32, h33, h34, h35, h36, h37, h38, h39⟩; exact cw4 _
  refine obe_val (by rfl) ?_ ?_
  · clear k6_b3_0 g6_b3_0 k6_b3_1 g6_b3_1 k6_b3_2 g6_b3_2 k6_b3_3 g6_b3_3 k6_b4_0 g6_b4_0 k6_b4_1 g6_b4_1 k6_b4_2 g6_b4_2 k6_b4_3 g6_b4_3 k6_g7_0 g6_g7_0 k6_g7_1 g6_g7_1 k6_g7_2 g6_g7_2 k6_g7_3 g6_g7_3 k6_g8_0 g6_g8_0 k6_g8_1 g6_g8_1 k6_g8_2 g6_g8_2 k6_g8_3 g6_g8_3 k6_g9_0 g6_g9_0 k6_g9_1 g6_g9_1 k6_g9_2 g6_g9_2 k6_g9_3 g6_g9_3 B6 z6; intro f hf; have u59 : f 59 = (.bool true) := (by rw [← hf]; rfl); clear hf; rintro w' ⟨h0, h1, h2, h3, h4, h5, h6, h7, h8, h9, h10, h11, h12, h13, h14, h15, h16, h17, h18, h19, h20, h21, h22, h23, h24, h25, h26, h27, h28, h29, h30, h31, h32, h33, h34, h35, h36, h37, h38, h39⟩; go_simp; try exact IntWalk.i64_in _ (by omega)
  refine obe_val (by rfl) ?_ ?_
  · clear k6_b3_0 g6_b3_0 k6_b3_1 g6_b3_1 k6_b3_2 g6_b3_2 k6_b3_3 g6_b3_3 k6_b4_0 g6_b4_0 k6_b4_1 g6_b4_1 k6_b4_2 g6_b4_2 k6_b4_3 g6_b4_3 k6_g7_0 g6_g7_0 k6_g7_1 g6_g7_1 k6_g7_2 g6_g7_2 k6_g7_3 g6_g7_3 k6_g8_0 g6_g8_0 k6_g8_1 g6_g8_1 k6_g8_2 g6_g8_2 k6_g8_3 g6_g8_3 k6_g9_0 g6_g9_0 k6_g9_1 g6_g9_1 k6_g9_2 g6_g9_2 k6_g9_3 g6_g9_3 B6 z6; intro f hf; have u9 : f 9 = (.pointer (some ⟨w5.heap.size, 0, none⟩)) := (by rw [← hf]; rfl); clear hf; rintro w' ⟨h0, h1, h2, h3, h4, h5, h6, h7, h8, h9, h10, h11, h12, h13, h14, h15, h16, h17, h18, h19, h20, h21, h22, h23, h24, h25, h26, h27, h28, h29, h30, h31, h32, h33, h34, h35, h36, h37, h38, h39⟩; go_simp; try exact IntWalk.i64_in _ (by omega)
  refine obe_val (by rfl) ?_ ?_
  · clear k6_b3_0 g6_b3_0 k6_b3_1 g6_b3_1 k6_b3_2 g6_b3_2 k6_b3_3 g6_b3_3 k6_b4_0 g6_b4_0 k6_b4_1 g6_b4_1 k6_b4_2 g6_b4_2 k6_b4_3 g6_b4_3 k6_g7_0 g6_g7_0 k6_g7_1 g6_g7_1 k6_g7_2 g6_g7_2 k6_g7_3 g6_g7_3 k6_g8_0 g6_g8_0 k6_g8_1 g6_g8_1 k6_g8_2 g6_g8_2 k6_g8_3 g6_g8_3 k6_g9_0 g6_g9_0 k6_g9_1 g6_g9_1 k6_g9_2 g6_g9_2 k6_g9_3 g6_g9_3 B6 z6; intro f hf; have u2 : f 2 = (.int .i64 nn) := (by rw [← hf]; rfl); clear hf; rintro w' ⟨h0, h1, h2, h3, h4, h5, h6, h7, h8, h9, h10, h11, h12, h13, h14, h15, h16, h17, h18, h19, h20, h21, h22, h23, h24, h25, h26, h27, h28, h29, h30, h31, h32, h33, h34, h35, h36, h37, h38, h39⟩; go_simp; try exact IntWalk.i64_in _ (by omega)
  refine obe_val (by rfl) ?_ ?_
  · clear k6_b3_0 g6_b3_0 k6_b3_1 g6_b3_1 k6_b3_2 g6_b3_2 k6_b3_3 g6_b3_3 k6_b4_0 g6_b4_0 k6_b4_1 g6_b4_1 k6_b4_2 g6_b4_2 k6_b4_3 g6_b4_3 k6_g7_0 g6_g7_0 k6_g7_1 g6_g7_1 k6_g7_2 g6_g7_2 k6_g7_3 g6_g7_3 k6_g8_0 g6_g8_0 k6_g8_1 g6_g8_1 k6_g8_2 g6_g8_2 k6_g8_3 g6_g8_3 k6_g9_0 g6_g9_0 k6_g9_1 g6_g9_1 k6_g9_2 g6_g9_2 k6_g9_3 g6_g9_3 B6 z6; intro f hf; have u62 : f 62 = (.int .i64 nn) := (by rw [← hf]; rfl); clear hf; rintro w' ⟨h0, h1, h2, h3, h4, h5, h6, h7, h8, h9, h10, h11, h12, h13, h14, h15, h16, h17, h18, h19, h20, h21, h22, h23, h24, h25, h26, h27, h28, h29, h30, h31, h32, h33, h34, h35, h36, h37, h38, h39⟩; go_simp; try exact IntWalk.i64_in _ (by omega)
  refine obe_call (by rfl) ?_ ?_ ?_
  · clear k6_b3_0 g6_b3_0 k6_b3_1 g6_b3_1 k6_b3_2 g6_b3_2 k6_b3_3 g6_b3_3 k6_b4_0 g6_b4_0 k6_b4_1 g6_b4_1 k6_b4_2 g6_b4_2 k6_b4_3 g6_b4_3 k6_g7_0 g6_g7_0 k6_g7_1 g6_g7_1 k6_g7_2 g6_g7_2 k6_g7_3 g6_g7_3 k6_g8_0 g6_g8_0 k6_g8_1 g6_g8_1 k6_g8_2 g6_g8_2 k6_g8_3 g6_g8_3 k6_g9_0 g6_g9_0 k6_g9_1 g6_g9_1 k6_g9_2 g6_g9_2 k6_g9_3 g6_g9_3 B6 z6; intro f hf; have u61 : f 61 = (.agg #[.int .i64 G0, .int .i64 G1, .int .i64 G2, .int .i64 G3]) := (by rw [← hf]; rfl); have u63 : f 63 = (.int .i64 (-nn)) := (by rw [← hf]; rfl); clear hf; intro w' _; simp only [execOp, resolve, invoke, rhoF_tmp, rhoF_func, rhoF_const, u61, u63, List.map_toArray, List.map_cons, List.map_nil]; go_simp
  · clear k6_b3_0 g6_b3_0 k6_b3_1 g6_b3_1 k6_b3_2 g6_b3_2 k6_b3_3 g6_b3_3 k6_b4_0 g6_b4_0 k6_b4_1 g6_b4_1 k6_b4_2 g6_b4_2 k6_b4_3 g6_b4_3 k6_g7_0 g6_g7_0 k6_g7_1 g6_g7_1 k6_g7_2 g6_g7_2 k6_g7_3 g6_g7_3 k6_g8_0 g6_g8_0 k6_g8_1 g6_g8_1 k6_g8_2 g6_g8_2 k6_g8_3 g6_g8_3 k6_g9_0 g6_g9_0 k6_g9_1 g6_g9_1 k6_g9_2 g6_g9_2 k6_g9_3 g6_g9_3 B6 z6; rintro w' ⟨h0, h1, h2, h3, h4, h5, h6, h7, h8, h9, h10, h11, h12, h13, h14, h15, h16, h17, h18, h19, h20, h21, h22, h23, h24, h25, h26, h27, h28, h29, h30, h31, h32, h33, h34, h35, h36, h37, h38, h39⟩; exact cp _
  refine obe_val (by rfl) ?_ ?_
  · clear k6_b3_0 g6_b3_0 k6_b3_1 g6_b3_1 k6_b3_2 g6_b3_2 k6_b3_3 g6_b3_3 k6_b4_0 g6_b4_0 k6_b4_1 g6_b4_1 k6_b4_2 g6_b4_2 k6_b4_3 g6_b4_3 k6_g7_0 g6_g7_0 k6_g7_1 g6_g7_1 k6_g7_2 g6_g7_2 k6_g7_3 g6_g7_3 k6_g8_0 g6_g8_0 k6_g8_1 g6_g8_1 k6_g8_2 g6_g8_2 k6_g8_3 g6_g8_3 k6_g9_0 g6_g9_0 k6_g9_1 g6_g9_1 k6_g9_2 g6_g9_2 k6_g9_3 g6_g9_3 B6 z6; intro f hf; have u3 : f 3 = (.pointer (some ⟨w.heap.size, 0, none⟩)) := (by rw [← hf]; rfl); clear hf; rintro w' ⟨h0, h1, h2, h3, h4, h5, h6, h7, h8, h9, h10, h11, h12, h13, h14, h15, h16, h17, h18, h19, h20, h21, h22, h23, h24, h25, h26, h27, h28, h29, h30, h31, h32, h33, h34, h35, h36, h37, h38, h39⟩; go_simp; try exact IntWalk.i64_in _ (by omega)
  refine obe_call (by rfl) ?_ ?_ ?_
  · clear k6_b3_0 g6_b3_0 k6_b3_1 g6_b3_1 k6_b3_2 g6_b3_2 k6_b3_3 g6_b3_3 k6_b4_0 g6_b4_0 k6_b4_1 g6_b4_1 k6_b4_2 g6_b4_2 k6_b4_3 g6_b4_3 k6_g7_0 g6_g7_0 k6_g7_1 g6_g7_1 k6_g7_2 g6_g7_2 k6_g7_3 g6_g7_3 k6_g8_0 g6_g8_0 k6_g8_1 g6_g8_1 k6_g8_2 g6_g8_2 k6_g8_3 g6_g8_3 k6_g9_0 g6_g9_0 k6_g9_1 g6_g9_1 k6_g9_2 g6_g9_2 k6_g9_3 g6_g9_3 B6 z6; intro f hf; have u64 : f 64 = (.agg #[.int .i64 P0, .int .i64 P1, .int .i64 P2, .int .i64 P3]) := (by rw [← hf]; rfl); have u65 : f 65 = (.agg #[.int .i64 a, .int .i64 b, .int .i64 c, .int .i64 d]) := (by rw [← hf]; rfl); clear hf; intro w' _; simp only [execOp, resolve, invoke, rhoF_tmp, rhoF_func, rhoF_const, u64, u65, List.map_toArray, List.map_cons, List.map_nil]; go_simp
  · clear k6_b3_0 g6_b3_0 k6_b3_1 g6_b3_1 k6_b3_2 g6_b3_2 k6_b3_3 g6_b3_3 k6_b4_0 g6_b4_0 k6_b4_1 g6_b4_1 k6_b4_2 g6_b4_2 k6_b4_3 g6_b4_3 k6_g7_0 g6_g7_0 k6_g7_1 g6_g7_1 k6_g7_2 g6_g7_2 k6_g7_3 g6_g7_3 k6_g8_0 g6_g8_0 k6_g8_1 g6_g8_1 k6_g8_2 g6_g8_2 k6_g8_3 g6_g8_3 k6_g9_0 g6_g9_0 k6_g9_1 g6_g9_1 k6_g9_2 g6_g9_2 k6_g9_3 g6_g9_3 B6 z6; rintro w' ⟨h0, h1, h2, h3, h4, h5, h6, h7, h8, h9, h10, h11, h12, h13, h14, h15, h16, h17, h18, h19, h20, h21, h22, h23, h24, h25, h26, h27, h28, h29, h30, h31, h32, h33, h34, h35, h36, h37, h38, h39⟩; exact cw5 _
  refine obe_val (by rfl) ?_ ?_
  · clear k6_b3_0 g6_b3_0 k6_b3_1 g6_b3_1 k6_b3_2 g6_b3_2 k6_b3_3 g6_b3_3 k6_b4_0 g6_b4_0 k6_b4_1 g6_b4_1 k6_b4_2 g6_b4_2 k6_b4_3 g6_b4_3 k6_g7_0 g6_g7_0 k6_g7_1 g6_g7_1 k6_g7_2 g6_g7_2 k6_g7_3 g6_g7_3 k6_g8_0 g6_g8_0 k6_g8_1 g6_g8_1 k6_g8_2 g6_g8_2 k6_g8_3 g6_g8_3 k6_g9_0 g6_g9_0 k6_g9_1 g6_g9_1 k6_g9_2 g6_g9_2 k6_g9_3 g6_g9_3 B6 z6; intro f hf; have u60 : f 60 = (.bool true) := (by rw [← hf]; rfl); have u66 : f 66 = (.bool true) := (by rw [← hf]; rfl); clear hf; rintro w' ⟨h0, h1, h2, h3, h4, h5, h6, h7, h8, h9, h10, h11, h12, h13, h14, h15, h16, h17, h18, h19, h20, h21, h22, h23, h24, h25, h26, h27, h28, h29, h30, h31, h32, h33, h34, h35, h36, h37, h38, h39⟩; go_simp; try exact IntWalk.i64_in _ (by omega)
  refine obe_val (by rfl) ?_ ?_
  · clear k6_b3_0 g6_b3_0 k6_b3_1 g6_b3_1 k6_b3_2 g6_b3_2 k6_b3_3 g6_b3_3 k6_b4_0 g6_b4_0 k6_b4_1 g6_b4_1 k6_b4_2 g6_b4_2 k6_b4_3 g6_b4_3 k6_g7_0 g6_g7_0 k6_g7_1 g6_g7_1 k6_g7_2 g6_g7_2 k6_g7_3 g6_g7_3 k6_g8_0 g6_g8_0 k6_g8_1 g6_g8_1 k6_g8_2 g6_g8_2 k6_g8_3 g6_g8_3 k6_g9_0 g6_g9_0 k6_g9_1 g6_g9_1 k6_g9_2 g6_g9_2 k6_g9_3 g6_g9_3 B6 z6; intro f hf; have u67 : f 67 = (.bool true) := (by rw [← hf]; rfl); clear hf; rintro w' ⟨h0, h1, h2, h3, h4, h5, h6, h7, h8, h9, h10, h11, h12, h13, h14, h15, h16, h17, h18, h19, h20, h21, h22, h23, h24, h25, h26, h27, h28, h29, h30, h31, h32, h33, h34, h35, h36, h37, h38, h39⟩; go_simp; try exact IntWalk.i64_in _ (by omega)
  refine obe_val (by rfl) ?_ ?_
  · clear k6_b3_0 g6_b3_0 k6_b3_1 g6_b3_1 k6_b3_2 g6_b3_2 k6_b3_3 g6_b3_3 k6_b4_0 g6_b4_0 k6_b4_1 g6_b4_1 k6_b4_2 g6_b4_2 k6_b4_3 g6_b4_3 k6_g7_0 g6_g7_0 k6_g7_1 g6_g7_1 k6_g7_2 g6_g7_2 k6_g7_3 g6_g7_3 k6_g8_0 g6_g8_0 k6_g8_1 g6_g8_1 k6_g8_2 g6_g8_2 k6_g8_3 g6_g8_3 k6_g9_0 g6_g9_0 k6_g9_1 g6_g9_1 k6_g9_2 g6_g9_2 k6_g9_3 g6_g9_3 B6 z6; intro f hf; have u3 : f 3 = (.pointer (some ⟨w.heap.size, 0, none⟩)) := (by rw [← hf]; rfl); clear hf; rintro w' ⟨h0, h1, h2, h3, h4, h5, h6, h7, h8, h9, h10, h11, h12, h13, h14, h15, h16, h17, h18, h19, h20, h21, h22, h23, h24, h25, h26, h27, h28, h29, h30, h31, h32, h33, h34, h35, h36, h37, h38, h39⟩; go_simp; try exact IntWalk.i64_in _ (by omega)
  refine obe_val (by rfl) ?_ ?_
  · clear k6_b3_0 g6_b3_0 k6_b3_1 g6_b3_1 k6_b3_2 g6_b3_2 k6_b3_3 g6_b3_3 k6_b4_0 g6_b4_0 k6_b4_1 g6_b4_1 k6_b4_2 g6_b4_2 k6_b4_3 g6_b4_3 k6_g7_0 g6_g7_0 k6_g7_1 g6_g7_1 k6_g7_2 g6_g7_2 k6_g7_3 g6_g7_3 k6_g8_0 g6_g8_0 k6_g8_1 g6_g8_1 k6_g8_2 g6_g8_2 k6_g8_3 g6_g8_3 k6_g9_0 g6_g9_0 k6_g9_1 g6_g9_1 k6_g9_2 g6_g9_2 k6_g9_3 g6_g9_3 B6 z6; intro f hf; have u2 : f 2 = (.int .i64 nn) := (by rw [← hf]; rfl); clear hf; rintro w' ⟨h0, h1, h2, h3, h4, h5, h6, h7, h8, h9, h10, h11, h12, h13, h14, h15, h16, h17, h18, h19, h20, h21, h22, h23, h24, h25, h26, h27, h28, h29, h30, h31, h32, h33, h34, h35, h36, h37, h38, h39⟩; go_simp; try exact IntWalk.i64_in _ (by omega)
  refine obe_val (by rfl) ?_ ?_
  · clear k6_b3_0 g6_b3_0 k6_b3_1 g6_b3_1 k6_b3_2 g6_b3_2 k6_b3_3 g6_b3_3 k6_b4_0 g6_b4_0 k6_b4_1 g6_b4_1 k6_b4_2 g6_b4_2 k6_b4_3 g6_b4_3 k6_g7_0 g6_g7_0 k6_g7_1 g6_g7_1 k6_g7_2 g6_g7_2 k6_g7_3 g6_g7_3 k6_g8_0 g6_g8_0 k6_g8_1 g6_g8_1 k6_g8_2 g6_g8_2 k6_g8_3 g6_g8_3 k6_g9_0 g6_g9_0 k6_g9_1 g6_g9_1 k6_g9_2 g6_g9_2 k6_g9_3 g6_g9_3 B6 z6; intro f hf; have u70 : f 70 = (.int .i64 nn) := (by rw [← hf]; rfl); clear hf; rintro w' ⟨h0, h1, h2, h3, h4, h5, h6, h7, h8, h9, h10, h11, h12, h13, h14, h15, h16, h17, h18, h19, h20, h21, h22, h23, h24, h25, h26, h27, h28, h29, h30, h31, h32, h33, h34, h35, h36, h37, h38, h39⟩; go_simp; try exact IntWalk.i64_in _ (by omega)
  refine obe_call (by rfl) ?_ ?_ ?_
  · clear k6_b3_0 g6_b3_0 k6_b3_1 g6_b3_1 k6_b3_2 g6_b3_2 k6_b3_3 g6_b3_3 k6_b4_0 g6_b4_0 k6_b4_1 g6_b4_1 k6_b4_2 g6_b4_2 k6_b4_3 g6_b4_3 k6_g7_0 g6_g7_0 k6_g7_1 g6_g7_1 k6_g7_2 g6_g7_2 k6_g7_3 g6_g7_3 k6_g8_0 g6_g8_0 k6_g8_1 g6_g8_1 k6_g8_2 g6_g8_2 k6_g8_3 g6_g8_3 k6_g9_0 g6_g9_0 k6_g9_1 g6_g9_1 k6_g9_2 g6_g9_2 k6_g9_3 g6_g9_3 B6 z6; intro f hf; have u69 : f 69 = (.agg #[.int .i64 a, .int .i64 b, .int .i64 c, .int .i64 d]) := (by rw [← hf]; rfl); have u71 : f 71 = (.int .i64 (-nn)) := (by rw [← hf]; rfl); clear hf; intro w' _; simp only [execOp, resolve, invoke, rhoF_tmp, rhoF_func, rhoF_const, u69, u71, List.map_toArray, List.map_cons, List.map_nil]; go_simp
  · clear k6_b3_0 g6_b3_0 k6_b3_1 g6_b3_1 k6_b3_2 g6_b3_2 k6_b3_3 g6_b3_3 k6_b4_0 g6_b4_0 k6_b4_1 g6_b4_1 k6_b4_2 g6_b4_2 k6_b4_3 g6_b4_3 k6_g7_0 g6_g7_0 k6_g7_1 g6_g7_1 k6_g7_2 g6_g7_2 k6_g7_3 g6_g7_3 k6_g8_0 g6_g8_0 k6_g8_1 g6_g8_1 k6_g8_2 g6_g8_2 k6_g8_3 g6_g8_3 k6_g9_0 g6_g9_0 k6_g9_1 g6_g9_1 k6_g9_2 g6_g9_2 k6_g9_3 g6_g9_3 B6 z6; rintro w' ⟨h0, h1, h2, h3, h4, h5, h6, h7, h8, h9, h10, h11, h12, h13, h14, h15, h16, h17, h18, h19, h20, h21, h22, h23, h24, h25, h26, h27, h28, h29, h30, h31, h32, h33, h34, h35, h36, h37, h38, h39⟩; exact cq _
  refine obe_val (by rfl) ?_ ?_
  · clear k6_b3_0 g6_b3_0 k6_b3_1 g6_b3_1 k6_b3_2 g6_b3_2 k6_b3_3 g6_b3_3 k6_b4_0 g6_b4_0 k6_b4_1 g6_b4_1 k6_b4_2 g6_b4_2 k6_b4_3 g6_b4_3 k6_g7_0 g6_g7_0 k6_g7_1 g6_g7_1 k6_g7_2 g6_g7_2 k6_g7_3 g6_g7_3 k6_g8_0 g6_g8_0 k6_g8_1 g6_g8_1 k6_g8_2 g6_g8_2 k6_g8_3 g6_g8_3 k6_g9_0 g6_g9_0 k6_g9_1 g6_g9_1 k6_g9_2 g6_g9_2 k6_g9_3 g6_g9_3 B6 z6; intro f hf; have u3 : f 3 = (.pointer (some ⟨w.heap.size, 0, none⟩)) := (by rw [← hf]; rfl); clear hf; rintro w' ⟨h0, h1, h2, h3, h4, h5, h6, h7, h8, h9, h10, h11, h12, h13, h14, h15, h16, h17, h18, h19, h20, h21, h22, h23, h24, h25, h26, h27, h28, h29, h30, h31, h32, h33, h34, h35, h36, h37, h38, h39⟩; go_simp; try exact IntWalk.i64_in _ (by omega)
  refine obe_call (by rfl) ?_ ?_ ?_
  · clear k6_b3_0 g6_b3_0 k6_b3_1 g6_b3_1 k6_b3_2 g6_b3_2 k6_b3_3 g6_b3_3 k6_b4_0 g6_b4_0 k6_b4_1 g6_b4_1 k6_b4_2 g6_b4_2 k6_b4_3 g6_b4_3 k6_g7_0 g6_g7_0 k6_g7_1 g6_g7_1 k6_g7_2 g6_g7_2 k6_g7_3 g6_g7_3 k6_g8_0 g6_g8_0 k6_g8_1 g6_g8_1 k6_g8_2 g6_g8_2 k6_g8_3 g6_g8_3 k6_g9_0 g6_g9_0 k6_g9_1 g6_g9_1 k6_g9_2 g6_g9_2 k6_g9_3 g6_g9_3 B6 z6; intro f hf; have u72 : f 72 = (.agg #[.int .i64 Q0, .int .i64 Q1, .int .i64 Q2, .int .i64 Q3]) := (by rw [← hf]; rfl); have u73 : f 73 = (.agg #[.int .i64 a, .int .i64 b, .int .i64 c, .int .i64 d]) := (by rw [← hf]; rfl); clear hf; intro w' _; simp only [execOp, resolve, invoke, rhoF_tmp, rhoF_func, rhoF_const, u72, u73, List.map_toArray, List.map_cons, List.map_nil]; go_simp
  · clear k6_b3_0 g6_b3_0 k6_b3_1 g6_b3_1 k6_b3_2 g6_b3_2 k6_b3_3 g6_b3_3 k6_b4_0 g6_b4_0 k6_b4_1 g6_b4_1 k6_b4_2 g6_b4_2 k6_b4_3 g6_b4_3 k6_g7_0 g6_g7_0 k6_g7_1 g6_g7_1 k6_g7_2 g6_g7_2 k6_g7_3 g6_g7_3 k6_g8_0 g6_g8_0 k6_g8_1 g6_g8_1 k6_g8_2 g6_g8_2 k6_g8_3 g6_g8_3 k6_g9_0 g6_g9_0 k6_g9_1 g6_g9_1 k6_g9_2 g6_g9_2 k6_g9_3 g6_g9_3 B6 z6; rintro w' ⟨h0, h1, h2, h3, h4, h5, h6, h7, h8, h9, h10, h11, h12, h13, h14, h15, h16, h17, h18, h19, h20, h21, h22, h23, h24, h25, h26, h27, h28, h29, h30, h31, h32, h33, h34, h35, h36, h37, h38, h39⟩; exact cw6 _
  refine obe_val (by rfl) ?_ ?_
  · clear k6_b3_0 g6_b3_0 k6_b3_1 g6_b3_1 k6_b3_2 g6_b3_2 k6_b3_3 g6_b3_3 k6_b4_0 g6_b4_0 k6_b4_1 g6_b4_1 k6_b4_2 g6_b4_2 k6_b4_3 g6_b4_3 k6_g7_0 g6_g7_0 k6_g7_1 g6_g7_1 k6_g7_2 g6_g7_2 k6_g7_3 g6_g7_3 k6_g8_0 g6_g8_0 k6_g8_1 g6_g8_1 k6_g8_2 g6_g8_2 k6_g8_3 g6_g8_3 k6_g9_0 g6_g9_0 k6_g9_1 g6_g9_1 k6_g9_2 g6_g9_2 k6_g9_3 g6_g9_3 B6 z6; intro f hf; have u68 : f 68 = (.bool true) := (by rw [← hf]; rfl); have u74 : f 74 = (.bool true) := (by rw [← hf]; rfl); clear hf; rintro w' ⟨h0, h1, h2, h3, h4, h5, h6, h7, h8, h9, h10, h11, h12, h13, h14, h15, h16, h17, h18, h19, h20, h21, h22, h23, h24, h25, h26, h27, h28, h29, h30, h31, h32, h33, h34, h35, h36, h37, h38, h39⟩; go_simp; try exact IntWalk.i64_in _ (by omega)
  refine obe_val (by rfl) ?_ ?_
  · clear k6_b3_0 g6_b3_0 k6_b3_1 g6_b3_1 k6_b3_2 g6_b3_2 k6_b3_3 g6_b3_3 k6_b4_0 g6_b4_0 k6_b4_1 g6_b4_1 k6_b4_2 g6_b4_2 k6_b4_3 g6_b4_3 k6_g7_0 g6_g7_0 k6_g7_1 g6_g7_1 k6_g7_2 g6_g7_2 k6_g7_3 g6_g7_3 k6_g8_0 g6_g8_0 k6_g8_1 g6_g8_1 k6_g8_2 g6_g8_2 k6_g8_3 g6_g8_3 k6_g9_0 g6_g9_0 k6_g9_1 g6_g9_1 k6_g9_2 g6_g9_2 k6_g9_3 g6_g9_3 B6 z6; intro f hf; have u75 : f 75 = (.bool true) := (by rw [← hf]; rfl); clear hf; rintro w' ⟨h0, h1, h2, h3, h4, h5, h6, h7, h8, h9, h10, h11, h12, h13, h14, h15, h16, h17, h18, h19, h20, h21, h22, h23, h24, h25, h26, h27, h28, h29, h30, h31, h32, h33, h34, h35, h36, h37, h38, h39⟩; go_simp; try exact IntWalk.i64_in _ (by omega)
  refine obe_call (by rfl) ?_ ?_ ?_
  · clear k6_b3_0 g6_b3_0 k6_b3_1 g6_b3_1 k6_b3_2 g6_b3_2 k6_b3_3 g6_b3_3 k6_b4_0 g6_b4_0 k6_b4_1 g6_b4_1 k6_b4_2 g6_b4_2 k6_b4_3 g6_b4_3 k6_g7_0 g6_g7_0 k6_g7_1 g6_g7_1 k6_g7_2 g6_g7_2 k6_g7_3 g6_g7_3 k6_g8_0 g6_g8_0 k6_g8_1 g6_g8_1 k6_g8_2 g6_g8_2 k6_g8_3 g6_g8_3 k6_g9_0 g6_g9_0 k6_g9_1 g6_g9_1 k6_g9_2 g6_g9_2 k6_g9_3 g6_g9_3 B6 z6; intro f hf; clear hf; intro w' _; simp only [execOp, resolve, invoke, rhoF_tmp, rhoF_func, rhoF_const, List.map_toArray, List.map_cons, List.map_nil]; go_simp
  · clear k6_b3_0 g6_b3_0 k6_b3_1 g6_b3_1 k6_b3_2 g6_b3_2 k6_b3_3 g6_b3_3 k6_b4_0 g6_b4_0 k6_b4_1 g6_b4_1 k6_b4_2 g6_b4_2 k6_b4_3 g6_b4_3 k6_g7_0 g6_g7_0 k6_g7_1 g6_g7_1 k6_g7_2 g6_g7_2 k6_g7_3 g6_g7_3 k6_g8_0 g6_g8_0 k6_g8_1 g6_g8_1 k6_g8_2 g6_g8_2 k6_g8_3 g6_g8_3 k6_g9_0 g6_g9_0 k6_g9_1 g6_g9_1 k6_g9_2 g6_g9_2 k6_g9_3 g6_g9_3 B6 z6; rintro w' ⟨h0, h1, h2, h3, h4, h5, h6, h7, h8, h9, h10, h11, h12, h13, h14, h15, h16, h17, h18, h19, h20, h21, h22, h23, h24, h25, h26, h27, h28, h29, h30, h31, h32, h33, h34, h35, h36, h37, h38, h39⟩; exact rex_any _
  refine obe_val (by rfl) ?_ ?_
  · clear k6_b3_0 g6_b3_0 k6_b3_1 g6_b3_1 k6_b3_2 g6_b3_2 k6_b3_3 g6_b3_3 k6_b4_0 g6_b4_0 k6_b4_1 g6_b4_1 k6_b4_2 g6_b4_2 k6_b4_3 g6_b4_3 k6_g7_0 g6_g7_0 k6_g7_1 g6_g7_1 k6_g7_2 g6_g7_2 k6_g7_3 g6_g7_3 k6_g8_0 g6_g8_0 k6_g8_1 g6_g8_1 k6_g8_2 g6_g8_2 k6_g8_3 g6_g8_3 k6_g9_0 g6_g9_0 k6_g9_1 g6_g9_1 k6_g9_2 g6_g9_2 k6_g9_3 g6_g9_3 B6 z6; intro f hf; have u76 : f 76 = (.bool true) := (by rw [← hf]; rfl); have u77 : f 77 = (.bool true) := (by rw [← hf]; rfl); clear hf; rintro w' ⟨h0, h1, h2, h3, h4, h5, h6, h7, h8, h9, h10, h11, h12, h13, h14, h15, h16, h17, h18, h19, h20, h21, h22, h23, h24, h25, h26, h27, h28, h29, h30, h31, h32, h33, h34, h35, h36, h37, h38, h39⟩; go_simp; try exact IntWalk.i64_in _ (by omega)
  refine obe_val (by rfl) ?_ ?_
  · clear k6_b3_0 g6_b3_0 k6_b3_1 g6_b3_1 k6_b3_2 g6_b3_2 k6_b3_3 g6_b3_3 k6_b4_0 g6_b4_0 k6_b4_1 g6_b4_1 k6_b4_2 g6_b4_2 k6_b4_3 g6_b4_3 k6_g7_0 g6_g7_0 k6_g7_1 g6_g7_1 k6_g7_2 g6_g7_2 k6_g7_3 g6_g7_3 k6_g8_0 g6_g8_0 k6_g8_1 g6_g8_1 k6_g8_2 g6_g8_2 k6_g8_3 g6_g8_3 k6_g9_0 g6_g9_0 k6_g9_1 g6_g9_1 k6_g9_2 g6_g9_2 k6_g9_3 g6_g9_3 B6 z6; intro f hf; have u78 : f 78 = (.bool true) := (by rw [← hf]; rfl); clear hf; rintro w' ⟨h0, h1, h2, h3, h4, h5, h6, h7, h8, h9, h10, h11, h12, h13, h14, h15, h16, h17, h18, h19, h20, h21, h22, h23, h24, h25, h26, h27, h28, h29, h30, h31, h32, h33, h34, h35, h36, h37, h38, h39⟩; go_simp; try exact IntWalk.i64_in _ (by omega)
  refine obe_nil ?_
  rintro w7 ⟨h0, h1, h2, h3, h4, h5, h6, h7, h8, h9, h10, h11, h12, h13, h14, h15, h16, h17, h18, h19, h20, h21, h22, h23, h24, h25, h26, h27, h28, h29, h30, h31, h32, h33, h34, h35, h36, h37, h38, h39⟩ hb7 hF
  (try simp only [List.nil_append, List.append_nil, List.cons_append] at hF)
  simp only [puts, putD, Act.put, List.setIfInBounds_toArray, List.set_cons_zero, List.set_cons_succ]
  clear hF
  have k7_b3_0 := bcs hb7 k6_b3_0
  have g7_b3_0 := bfs hb7 k6_b3_0 g6_b3_0
  have k7_b3_1 := bcs hb7 k6_b3_1
  have g7_b3_1 := bfs hb7 k6_b3_1 g6_b3_1
  have k7_b3_2 := bcs hb7 k6_b3_2
  have g7_b3_2 := bfs hb7 k6_b3_2 g6_b3_2
  have k7_b3_3 := bcs hb7 k6_b3_3
  have g7_b3_3 := bfs hb7 k6_b3_3 g6_b3_3
  have k7_b4_0 := bcs hb7 k6_b4_0
  have g7_b4_0 := bfs hb7 k6_b4_0 g6_b4_0
  have k7_b4_1 := bcs hb7 k6_b4_1
  have g7_b4_1 := bfs hb7 k6_b4_1 g6_b4_1
  have k7_b4_2 := bcs hb7 k6_b4_2
  have g7_b4_2 := bfs hb7 k6_b4_2 g6_b4_2
  have k7_b4_3 := bcs hb7 k6_b4_3
  have g7_b4_3 := bfs hb7 k6_b4_3 g6_b4_3
  have k7_g7_0 := bcs hb7 k6_g7_0
  have g7_g7_0 := bfs hb7 k6_g7_0 g6_g7_0
  have k7_g7_1 := bcs hb7 k6_g7_1
  have g7_g7_1 := bfs hb7 k6_g7_1 g6_g7_1
  have k7_g7_2 := bcs hb7 k6_g7_2
  have g7_g7_2 := bfs hb7 k6_g7_2 g6_g7_2
  have k7_g7_3 := bcs hb7 k6_g7_3
  have g7_g7_3 := bfs hb7 k6_g7_3 g6_g7_3
  have k7_g8_0 := bcs hb7 k6_g8_0
  have g7_g8_0 := bfs hb7 k6_g8_0 g6_g8_0
  have k7_g8_1 := bcs hb7 k6_g8_1
  have g7_g8_1 := bfs hb7 k6_g8_1 g6_g8_1
  have k7_g8_2 := bcs hb7 k6_g8_2
  have g7_g8_2 := bfs hb7 k6_g8_2 g6_g8_2
  have k7_g8_3 := bcs hb7 k6_g8_3
  have g7_g8_3 := bfs hb7 k6_g8_3 g6_g8_3
  have k7_g9_0 := bcs hb7 k6_g9_0
  have g7_g9_0 := bfs hb7 k6_g9_0 g6_g9_0
  have k7_g9_1 := bcs hb7 k6_g9_1
  have g7_g9_1 := bfs hb7 k6_g9_1 g6_g9_1
  have k7_g9_2 := bcs hb7 k6_g9_2
  have g7_g9_2 := bfs hb7 k6_g9_2 g6_g9_2
  have k7_g9_3 := bcs hb7 k6_g9_3
  have g7_g9_3 := bfs hb7 k6_g9_3 g6_g9_3
  clear h0 h1 h2 h3 h4 h5 h6 h7 h8 h9 h10 h11 h12 h13 h14 h15 h16 h17 h18 h19 h20 h21 h22 h23 h24 h25 h26 h27 h28 h29 h30 h31 h32 h33 h34 h35 h36 h37 h38 h39
  have B7 := bel_step B6 hb7
  have z7 := Nat.le_trans z6 hb7.size
  clear hb7
  (try clear B6)
  (try clear z6)
  (try clear k6_b3_0)
  (try clear g6_b3_0)
  (try clear k6_b3_1)
  (try clear g6_b3_1)
  (try clear k6_b3_2)
  (try clear g6_b3_2)
  (try clear k6_b3_3)
  (try clear g6_b3_3)
  (try clear k6_b4_0)
  (try clear g6_b4_0)
  (try clear k6_b4_1)
  (try clear g6_b4_1)
  (try clear k6_b4_2)
  (try clear g6_b4_2)
  (try clear k6_b4_3)
  (try clear g6_b4_3)
  (try clear k6_g7_0)
  (try clear g6_g7_0)
  (try clear k6_g7_1)
  (try clear g6_g7_1)
  (try clear k6_g7_2)
  (try clear g6_g7_2)
  (try clear k6_g7_3)
  (try clear g6_g7_3)
  (try clear k6_g8_0)
  (try clear g6_g8_0)
  (try clear k6_g8_1)
  (try clear g6_g8_1)
  (try clear k6_g8_2)
  (try clear g6_g8_2)
  (try clear k6_g8_3)
  (try clear g6_g8_3)
  (try clear k6_g9_0)
  (try clear g6_g9_0)
  (try clear k6_g9_1)
  (try clear g6_g9_1)
  (try clear k6_g9_2)
  (try clear g6_g9_2)
  (try clear k6_g9_3)
  (try clear g6_g9_3)
  (try clear q6_b3)
  (try clear x6_b3)
  (try clear y6_b3)
  (try clear q6_b4)
  (try clear x6_b4)
  (try clear y6_b4)
  (try clear q6_g7)
  (try clear x6_g7)
  (try clear y6_g7)
  (try clear q6_g8)
  (try clear x6_g8)
  (try clear y6_g8)
  (try clear q6_g9)
  (try clear x6_g9)
  (try clear y6_g9)
  have q7_b3 : w.heap.size < w7.heap.size := qlt k7_b3_0
  have x7_b3 : ¬ w.heap.size = w7.heap.size := qne k7_b3_0
  have y7_b3 : ¬ w7.heap.size = w.heap.size := fun h => qne k7_b3_0 h.symm
  have q7_b4 : w.heap.size + 1 < w7.heap.size := qlt k7_b4_0
  have x7_b4 : ¬ w.heap.size + 1 = w7.heap.size := qne k7_b4_0
  have y7_b4 : ¬ w7.heap.size = w.heap.size + 1 := fun h => qne k7_b4_0 h.symm
  have q7_g7 : g7 < w7.heap.size := qlt k7_g7_0
  have x7_g7 : ¬ g7 = w7.heap.size := qne k7_g7_0
  have y7_g7 : ¬ w7.heap.size = g7 := fun h => qne k7_g7_0 h.symm
  have q7_g8 : g8 < w7.heap.size := qlt k7_g8_0
  have x7_g8 : ¬ g8 = w7.heap.size := qne k7_g8_0
  have y7_g8 : ¬ w7.heap.size = g8 := fun h => qne k7_g8_0 h.symm
  have q7_g9 : w5.heap.size < w7.heap.size := qlt k7_g9_0
  have x7_g9 : ¬ w5.heap.size = w7.heap.size := qne k7_g9_0
  have y7_g9 : ¬ w7.heap.size = w5.heap.size := fun h => qne k7_g9_0 h.symm
  unfold wpList
  go_wp2
  go_ret
  refine ⟨rfl, ?_⟩
  repeat (first | with_reducible exact Below.refl _ _ | with_reducible exact B7 | with_reducible apply below_drewN | with_reducible apply Below.drew | (with_reducible refine Below.alloc ?_ (by first | (simp; done) | (simp; omega) | omega) _) | (with_reducible refine Below.setCell ?_ (by first | (simp; done) | (simp; omega) | omega) _))
end Go.Proofs.Ytbipanhgjbnljaa
