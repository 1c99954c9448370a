import Derived.Test.YtcklplodbdbciaaEnv
import Derived.Test.YtcklplodbdbciaaGradNum
import Derived.Test.YtcklplodbdbciaaImc
import Derived.Test.YtcklplodbdbciaaMod
import Derived.WalkKit
import Derived.WalkSpells
import Derived.WalkLawsBesides
import Derived.Lib.Hide
import Derived.Below
import Derived.Deep.QuietTactic
import Derived.BigQuiet
import Derived.Deep.RegionHeld3
import Derived.Deep.DrawnRows
import Derived.Deep.DeepFit
import Derived.IntWalk
namespace Go.Proofs.Ytcklplodbdbciaa
open Go.RowKit
set_option linter.unusedVariables false
set_option linter.unusedSimpArgs false
attribute [local go_sem ↓] Go.wp_at_zero Go.wp_at_succ
attribute [local go_sem] rhoF_tmp rhoF_const rhoF_global rhoF_func

set_option maxHeartbeats 1000000 in
theorem lcl_any (v u m d : Int) (p q : Nat) (v0 : 0 ≤ v) (v1 : v ≤ 255) (u0 : 0 ≤ u) (u1 : u ≤ 255) (m0 : 0 ≤ m) (m1 : m ≤ d) (d0 : 1 ≤ d) (d1 : d ≤ 1099511627776) (w : World) (hp : w.cell? ⟨p, 0, none⟩ = some (.int .i64 m)) (hq : w.cell? ⟨q, 0, none⟩ = some (.int .i64 d)) :
    Calls Try.prog 24 #[.int .i64 v, .int .i64 u, .pointer (some ⟨p, 0, none⟩), .pointer (some ⟨q, 0, none⟩)] w fun e w' => e = .returned (.int .u8 (lc v u m d)) ∧ ∃ nd, w' = w.drewN nd := by
  obtain ⟨p0, p1, p2, p3⟩ := prod_bd v u m d v0 v1 u0 u1 m0 m1
  obtain ⟨b0, b1, b2, b3⟩ := lc_bd v u m d v0 v1 u0 u1 m0 m1 d0 d1
  have c := fun w => divRound_any (m * (u - v)) d (by omega) (by omega) (by omega) (by omega) w
  unfold lc at b0 b1 ⊢
  obtain ⟨R, hR⟩ : ∃ x, mdrV (m * (u - v)) 1 d = x := ⟨_, rfl⟩
  rw [hR] at b0 b1 b2 b3 c ⊢
  clear hR p2 p3
  obtain ⟨Q, hQ⟩ : ∃ x, m * (u - v) = x := ⟨_, rfl⟩
  rw [hQ] at p0 p1 c
  go_enter Try.func24, Try.ntmps24
  go_wp2_with (go_at_call 25; (with_reducible refine (c _).mono ?_); rintro e w9 ⟨rfl, nd, rfl⟩)
  go_ret
  exact ⟨rfl, _, rfl⟩

set_option maxHeartbeats 4000000 in
theorem combine_any (ar ag ab aa br bg bb ba m d : Int) (p q : Nat) (ar0 : 0 ≤ ar) (ar1 : ar ≤ 255) (ag0 : 0 ≤ ag) (ag1 : ag ≤ 255) (ab0 : 0 ≤ ab) (ab1 : ab ≤ 255) (aa0 : 0 ≤ aa) (aa1 : aa ≤ 255) (br0 : 0 ≤ br) (br1 : br ≤ 255) (bg0 : 0 ≤ bg) (bg1 : bg ≤ 255) (bb0 : 0 ≤ bb) (bb1 : bb ≤ 255) (ba0 : 0 ≤ ba) (ba1 : ba ≤ 255) (m0 : 0 ≤ m) (m1 : m ≤ d) (d0 : 1 ≤ d) (d1 : d ≤ 1099511627776) (w : World) (hp : w.cell? ⟨p, 0, none⟩ = some (.int .i64 m)) (gp : w.frozen? ⟨p, 0, none⟩ = false) (hq : w.cell? ⟨q, 0, none⟩ = some (.int .i64 d)) (gq : w.frozen? ⟨q, 0, none⟩ = false) :
    Calls Try.prog 23 #[.agg #[.int .u8 ar, .int .u8 ag, .int .u8 ab, .int .u8 aa], .agg #[.int .u8 br, .int .u8 bg, .int .u8 bb, .int .u8 ba], .func (.func 24) #[] #[.pointer (some ⟨p, 0, none⟩), .pointer (some ⟨q, 0, none⟩)]] w fun e w' => e = .returned (.agg #[.int .u8 (lc ar br m d), .int .u8 (lc ag bg m d), .int .u8 (lc ab bb m d), .int .u8 (lc aa ba m d)]) ∧ Below w.heap.size w w' := by
  have hpl := qlt hp
  have hql := qlt hq
  obtain ⟨l0, hl0⟩ : ∃ x, lc ar br m d = x := ⟨_, rfl⟩
  obtain ⟨l1, hl1⟩ : ∃ x, lc ag bg m d = x := ⟨_, rfl⟩
  obtain ⟨l2, hl2⟩ : ∃ x, lc ab bb m d = x := ⟨_, rfl⟩
  obtain ⟨l3, hl3⟩ : ∃ x, lc aa ba m d = x := ⟨_, rfl⟩
  rw [hl0, hl1, hl2, hl3]
  have lcl_any := fun v u p q v0 v1 u0 u1 => lcl_any v u m d p q v0 v1 u0 u1 m0 m1 d0 d1
  have c0 := lcl_any ar br p q ar0 ar1 br0 br1
  have c1 := lcl_any ag bg p q ag0 ag1 bg0 bg1
  have c2 := lcl_any ab bb p q ab0 ab1 bb0 bb1
  have c3 := lcl_any aa ba p q aa0 aa1 ba0 ba1
  rw [hl0] at c0
  rw [hl1] at c1
  rw [hl2] at c2
  rw [hl3] at c3
  clear lcl_any hl0 hl1 hl2 hl3
  go_enter Try.func23, Try.ntmps23
  go_wp2
  refine wp_region_env (fun w' => w'.cell? ⟨w.heap.size, 0, none⟩ = some (.int .u8 ar) ∧ w'.frozen? ⟨w.heap.size, 0, none⟩ = false ∧ w'.cell? ⟨w.heap.size, 1, none⟩ = some (.int .u8 ag) ∧ w'.frozen? ⟨w.heap.size, 1, none⟩ = false ∧ w'.cell? ⟨w.heap.size, 2, none⟩ = some (.int .u8 ab) ∧ w'.frozen? ⟨w.heap.size, 2, none⟩ = false ∧ w'.cell? ⟨w.heap.size, 3, none⟩ = some (.int .u8 aa) ∧ w'.frozen? ⟨w.heap.size, 3, none⟩ = false ∧ w'.cell? ⟨w.heap.size + 1, 0, none⟩ = some (.int .u8 br) ∧ w'.frozen? ⟨w.heap.size + 1, 0, none⟩ = false ∧ w'.cell? ⟨w.heap.size + 1, 1, none⟩ = some (.int .u8 bg) ∧ w'.frozen? ⟨w.heap.size + 1, 1, none⟩ = false ∧ w'.cell? ⟨w.heap.size + 1, 2, none⟩ = some (.int .u8 bb) ∧ w'.frozen? ⟨w.heap.size + 1, 2, none⟩ = false ∧ w'.cell? ⟨w.heap.size + 1, 3, none⟩ = some (.int .u8 ba) ∧ w'.frozen? ⟨w.heap.size + 1, 3, none⟩ = false ∧ w'.cell? ⟨w.heap.size + 1 + 1, 0, none⟩ = some (.int .u8 0) ∧ w'.frozen? ⟨w.heap.size + 1 + 1, 0, none⟩ = false ∧ w'.cell? ⟨w.heap.size + 1 + 1, 1, none⟩ = some (.int .u8 0) ∧ w'.frozen? ⟨w.heap.size + 1 + 1, 1, none⟩ = false ∧ w'.cell? ⟨w.heap.size + 1 + 1, 2, none⟩ = some (.int .u8 0) ∧ w'.frozen? ⟨w.heap.size + 1 + 1, 2, none⟩ = false ∧ w'.cell? ⟨w.heap.size + 1 + 1, 3, none⟩ = some (.int .u8 0) ∧ w'.frozen? ⟨w.heap.size + 1 + 1, 3, none⟩ = false ∧ w'.cell? ⟨p, 0, none⟩ = some (.int .i64 m) ∧ w'.frozen? ⟨p, 0, none⟩ = false ∧ w'.cell? ⟨q, 0, none⟩ = some (.int .i64 d) ∧ w'.frozen? ⟨q, 0, none⟩ = false) (fun W => W.cell? ⟨w.heap.size, 0, none⟩ = some (.int .u8 ar) ∧ W.frozen? ⟨w.heap.size, 0, none⟩ = false ∧ W.cell? ⟨w.heap.size, 1, none⟩ = some (.int .u8 ag) ∧ W.frozen? ⟨w.heap.size, 1, none⟩ = false ∧ W.cell? ⟨w.heap.size, 2, none⟩ = some (.int .u8 ab) ∧ W.frozen? ⟨w.heap.size, 2, none⟩ = false ∧ W.cell? ⟨w.heap.size, 3, none⟩ = some (.int .u8 aa) ∧ W.frozen? ⟨w.heap.size, 3, none⟩ = false ∧ W.cell? ⟨w.heap.size + 1, 0, none⟩ = some (.int .u8 br) ∧ W.frozen? ⟨w.heap.size + 1, 0, none⟩ = false ∧ W.cell? ⟨w.heap.size + 1, 1, none⟩ = some (.int .u8 bg) ∧ W.frozen? ⟨w.heap.size + 1, 1, none⟩ = false ∧ W.cell? ⟨w.heap.size + 1, 2, none⟩ = some (.int .u8 bb) ∧ W.frozen? ⟨w.heap.size + 1, 2, none⟩ = false ∧ W.cell? ⟨w.heap.size + 1, 3, none⟩ = some (.int .u8 ba) ∧ W.frozen? ⟨w.heap.size + 1, 3, none⟩ = false ∧ W.cell? ⟨w.heap.size + 1 + 1, 0, none⟩ = some (.int .u8 0) ∧ W.frozen? ⟨w.heap.size + 1 + 1, 0, none⟩ = false ∧ W.cell? ⟨w.heap.size + 1 + 1, 1, none⟩ = some (.int .u8 0) ∧ W.frozen? ⟨w.heap.size + 1 + 1, 1, none⟩ = false ∧ W.cell? ⟨w.heap.size + 1 + 1, 2, none⟩ = some (.int .u8 0) ∧ W.frozen? ⟨w.heap.size + 1 + 1, 2, none⟩ = false ∧ W.cell? ⟨w.heap.size + 1 + 1, 3, none⟩ = some (.int .u8 0) ∧ W.frozen? ⟨w.heap.size + 1 + 1, 3, none⟩ = false ∧ W.cell? ⟨p, 0, none⟩ = some (.int .i64 m) ∧ W.frozen? ⟨p, 0, none⟩ = false ∧ W.cell? ⟨q, 0, none⟩ = some (.int .i64 d) ∧ W.frozen? ⟨q, 0, none⟩ = false ∧ Below w.heap.size w W ∧ w.heap.size + 1 + 1 + 1 ≤ W.heap.size) 33 40 [.val (.func (.func 24) #[] #[.pointer (some ⟨p, 0, none⟩), .pointer (some ⟨q, 0, none⟩)]), .val (.pointer (some ⟨w.heap.size, 0, none⟩)), .val (.int .u8 ar), .val (.int .i64 ar), .val (.pointer (some ⟨w.heap.size + 1, 0, none⟩)), .val (.int .u8 br), .val (.int .i64 br), .call 24 #[.int .i64 ar, .int .i64 br, .pointer (some ⟨p, 0, none⟩), .pointer (some ⟨q, 0, none⟩)] (.int .u8 l0), .val (.func (.func 24) #[] #[.pointer (some ⟨p, 0, none⟩), .pointer (some ⟨q, 0, none⟩)]), .val (.pointer (some ⟨w.heap.size, 1, none⟩)), .val (.int .u8 ag), .val (.int .i64 ag), .val (.pointer (some ⟨w.heap.size + 1, 1, none⟩)), .val (.int .u8 bg), .val (.int .i64 bg), .call 24 #[.int .i64 ag, .int .i64 bg, .pointer (some ⟨p, 0, none⟩), .pointer (some ⟨q, 0, none⟩)] (.int .u8 l1), .val (.func (.func 24) #[] #[.pointer (some ⟨p, 0, none⟩), .pointer (some ⟨q, 0, none⟩)]), .val (.pointer (some ⟨w.heap.size, 2, none⟩)), .val (.int .u8 ab), .val (.int .i64 ab), .val (.pointer (some ⟨w.heap.size + 1, 2, none⟩)), .val (.int .u8 bb), .val (.int .i64 bb), .call 24 #[.int .i64 ab, .int .i64 bb, .pointer (some ⟨p, 0, none⟩), .pointer (some ⟨q, 0, none⟩)] (.int .u8 l2), .val (.func (.func 24) #[] #[.pointer (some ⟨p, 0, none⟩), .pointer (some ⟨q, 0, none⟩)]), .val (.pointer (some ⟨w.heap.size, 3, none⟩)), .val (.int .u8 aa), .val (.int .i64 aa), .val (.pointer (some ⟨w.heap.size + 1, 3, none⟩)), .val (.int .u8 ba), .val (.int .i64 ba), .call 24 #[.int .i64 aa, .int .i64 ba, .pointer (some ⟨p, 0, none⟩), .pointer (some ⟨q, 0, none⟩)] (.int .u8 l3), .val (.agg #[.int .u8 l0, .int .u8 l1, .int .u8 l2, .int .u8 l3])] (by kernel_rfl) (by kernel_rfl) rfl (by kernel_rfl) (by rintro w1 w2 ⟨h0, h1, h2, h3, h4, h5, h6, h7, h8, h9, h10, h11, h12, h13, h14, h15, h16, h17, h18, h19, h20, h21, h22, h23, h24, h25, h26, h27⟩ hb; exact ⟨bcs hb h0, bfs hb h0 h1, bcs hb h2, bfs hb h2 h3, bcs hb h4, bfs hb h4 h5, bcs hb h6, bfs hb h6 h7, bcs hb h8, bfs hb h8 h9, bcs hb h10, bfs hb h10 h11, bcs hb h12, bfs hb h12 h13, bcs hb h14, bfs hb h14 h15, bcs hb h16, bfs hb h16 h17, bcs hb h18, bfs hb h18 h19, bcs hb h20, bfs hb h20 h21, bcs hb h22, bfs hb h22 h23, bcs hb h24, bfs hb h24 h25, bcs hb h26, bfs hb h26 h27⟩) ⟨by first | with_reducible assumption | go_simp, by first | with_reducible assumption | go_simp, by first | with_reducible assumption | go_simp, by first | with_reducible assumption | go_simp, by first | with_reducible assumption | go_simp, by first | with_reducible assumption | go_simp, by first | with_reducible assumption | go_simp, by first | with_reducible assumption | go_simp, by first | with_reducible assumption | go_simp, by first | with_reducible assumption | go_simp, by first | with_reducible assumption | go_simp, by first | with_reducible assumption | go_simp, by first | with_reducible assumption | go_simp, by first | with_reducible assumption | go_simp, by first | with_reducible assumption | go_simp, by first | with_reducible assumption | go_simp, by first | with_reducible assumption | go_simp, by first | with_reducible assumption | go_simp, by first | with_reducible assumption | go_simp, by first | with_reducible assumption | go_simp, by first | with_reducible assumption | go_simp, by first | with_reducible assumption | go_simp, by first | with_reducible assumption | go_simp, by first | with_reducible assumption | go_simp, bcs (by repeat (first | with_reducible exact Below.refl _ _ | fail | with_reducible apply below_drewN | with_reducible apply Below.drew | (with_reducible refine Below.alloc ?_ (by first | (simp; done) | (simp; omega) | omega) _) | (with_reducible refine Below.setCell ?_ (by first | (simp; done) | (simp; omega) | omega) _))) hp, bfs (by repeat (first | with_reducible exact Below.refl _ _ | fail | with_reducible apply below_drewN | with_reducible apply Below.drew | (with_reducible refine Below.alloc ?_ (by first | (simp; done) | (simp; omega) | omega) _) | (with_reducible refine Below.setCell ?_ (by first | (simp; done) | (simp; omega) | omega) _))) hp gp, bcs (by repeat (first | with_reducible exact Below.refl _ _ | fail | with_reducible apply below_drewN | with_reducible apply Below.drew | (with_reducible refine Below.alloc ?_ (by first | (simp; done) | (simp; omega) | omega) _) | (with_reducible refine Below.setCell ?_ (by first | (simp; done) | (simp; omega) | omega) _))) hq, bfs (by repeat (first | with_reducible exact Below.refl _ _ | fail | with_reducible apply below_drewN | with_reducible apply Below.drew | (with_reducible refine Below.alloc ?_ (by first | (simp; done) | (simp; omega) | omega) _) | (with_reducible refine Below.setCell ?_ (by first | (simp; done) | (simp; omega) | omega) _))) hq gq, by repeat (first | with_reducible exact Below.refl _ _ | fail | with_reducible apply below_drewN | with_reducible apply Below.drew | (with_reducible refine Below.alloc ?_ (by first | (simp; done) | (simp; omega) | omega) _) | (with_reducible refine Below.setCell ?_ (by first | (simp; done) | (simp; omega) | omega) _)), by first | with_reducible assumption | (simp; done) | (simp; omega)⟩ ?_ ?_
  · rintro W ⟨k1_b3_0, g1_b3_0, k1_b3_1, g1_b3_1, k1_b3_2, g1_b3_2, k1_b3_3, g1_b3_3, k1_b4_0, g1_b4_0, k1_b4_1, g1_b4_1, k1_b4_2, g1_b4_2, k1_b4_3, g1_b4_3, k1_b6_0, g1_b6_0, k1_b6_1, g1_b6_1, k1_b6_2, g1_b6_2, k1_b6_3, g1_b6_3, k1_cp_0, g1_cp_0, k1_cq_0, g1_cq_0, B1, z1⟩; exact ⟨k1_b3_0, g1_b3_0, k1_b3_1, g1_b3_1, k1_b3_2, g1_b3_2, k1_b3_3, g1_b3_3, k1_b4_0, g1_b4_0, k1_b4_1, g1_b4_1, k1_b4_2, g1_b4_2, k1_b4_3, g1_b4_3, k1_b6_0, g1_b6_0, k1_b6_1, g1_b6_1, k1_b6_2, g1_b6_2, k1_b6_3, g1_b6_3, k1_cp_0, g1_cp_0, k1_cq_0, g1_cq_0⟩
  rintro w1 ⟨k1_b3_0, g1_b3_0, k1_b3_1, g1_b3_1, k1_b3_2, g1_b3_2, k1_b3_3, g1_b3_3, k1_b4_0, g1_b4_0, k1_b4_1, g1_b4_1, k1_b4_2, g1_b4_2, k1_b4_3, g1_b4_3, k1_b6_0, g1_b6_0, k1_b6_1, g1_b6_1, k1_b6_2, g1_b6_2, k1_b6_3, g1_b6_3, k1_cp_0, g1_cp_0, k1_cq_0, g1_cq_0, B1, z1⟩ gg
  simp only [List.take_succ_cons, List.take_zero, List.drop_succ_cons, List.drop_zero, List.cons_append, List.nil_append, List.append_nil]
  refine obe_val (by rfl) ?_ ?_
  · clear k1_b3_0 g1_b3_0 k1_b3_1 g1_b3_1 k1_b3_2 g1_b3_2 k1_b3_3 g1_b3_3 k1_b4_0 g1_b4_0 k1_b4_1 g1_b4_1 k1_b4_2 g1_b4_2 k1_b4_3 g1_b4_3 k1_b6_0 g1_b6_0 k1_b6_1 g1_b6_1 k1_b6_2 g1_b6_2 k1_b6_3 g1_b6_3 k1_cp_0 g1_cp_0 k1_cq_0 g1_cq_0 B1 z1; intro f hf; have u2 : f 2 = (.func (.func 24) #[] #[.pointer (some ⟨p, 0, none⟩), .pointer (some ⟨q, 0, none⟩)]) := (by rw [← hf]; rfl); clear hf; rintro w' ⟨h0, h1, h2, h3, h4, h5, h6, h7, h8, h9, h10, h11, h12, h13, h14, h15, h16, h17, h18, h19, h20, h21, h22, h23, h24, h25, h26, h27⟩; go_simp; try exact IntWalk.i64_in _ (by omega)
  refine obe_val (by rfl) ?_ ?_
  · clear k1_b3_0 g1_b3_0 k1_b3_1 g1_b3_1 k1_b3_2 g1_b3_2 k1_b3_3 g1_b3_3 k1_b4_0 g1_b4_0 k1_b4_1 g1_b4_1 k1_b4_2 g1_b4_2 k1_b4_3 g1_b4_3 k1_b6_0 g1_b6_0 k1_b6_1 g1_b6_1 k1_b6_2 g1_b6_2 k1_b6_3 g1_b6_3 k1_cp_0 g1_cp_0 k1_cq_0 g1_cq_0 B1 z1; intro f hf; have u3 : f 3 = (.pointer (some ⟨w.heap.size, 0, none⟩)) := (by rw [← hf]; rfl); clear hf; rintro w' ⟨h0, h1, h2, h3, h4, h5, h6, h7, h8, h9, h10, h11, h12, h13, h14, h15, h16, h17, h18, h19, h20, h21, h22, h23, h24, h25, h26, h27⟩; go_simp; try exact IntWalk.i64_in _ (by omega)
  refine obe_val (by rfl) ?_ ?_
  · clear k1_b3_0 g1_b3_0 k1_b3_1 g1_b3_1 k1_b3_2 g1_b3_2 k1_b3_3 g1_b3_3 k1_b4_0 g1_b4_0 k1_b4_1 g1_b4_1 k1_b4_2 g1_b4_2 k1_b4_3 g1_b4_3 k1_b6_0 g1_b6_0 k1_b6_1 g1_b6_1 k1_b6_2 g1_b6_2 k1_b6_3 g1_b6_3 k1_cp_0 g1_cp_0 k1_cq_0 g1_cq_0 B1 z1; intro f hf; have u8 : f 8 = (.pointer (some ⟨w.heap.size, 0, none⟩)) := (by rw [← hf]; rfl); clear hf; rintro w' ⟨h0, h1, h2, h3, h4, h5, h6, h7, h8, h9, h10, h11, h12, h13, h14, h15, h16, h17, h18, h19, h20, h21, h22, h23, h24, h25, h26, h27⟩; go_simp; try exact IntWalk.i64_in _ (by omega)
  refine obe_val (by rfl) ?_ ?_
  · clear k1_b3_0 g1_b3_0 k1_b3_1 g1_b3_1 k1_b3_2 g1_b3_2 k1_b3_3 g1_b3_3 k1_b4_0 g1_b4_0 k1_b4_1 g1_b4_1 k1_b4_2 g1_b4_2 k1_b4_3 g1_b4_3 k1_b6_0 g1_b6_0 k1_b6_1 g1_b6_1 k1_b6_2 g1_b6_2 k1_b6_3 g1_b6_3 k1_cp_0 g1_cp_0 k1_cq_0 g1_cq_0 B1 z1; intro f hf; have u9 : f 9 = (.int .u8 ar) := (by rw [← hf]; rfl); clear hf; rintro w' ⟨h0, h1, h2, h3, h4, h5, h6, h7, h8, h9, h10, h11, h12, h13, h14, h15, h16, h17, h18, h19, h20, h21, h22, h23, h24, h25, h26, h27⟩; go_simp; try exact IntWalk.i64_in _ (by omega)
  refine obe_val (by rfl) ?_ ?_
  · clear k1_b3_0 g1_b3_0 k1_b3_1 g1_b3_1 k1_b3_2 g1_b3_2 k1_b3_3 g1_b3_3 k1_b4_0 g1_b4_0 k1_b4_1 g1_b4_1 k1_b4_2 g1_b4_2 k1_b4_3 g1_b4_3 k1_b6_0 g1_b6_0 k1_b6_1 g1_b6_1 k1_b6_2 g1_b6_2 k1_b6_3 g1_b6_3 k1_cp_0 g1_cp_0 k1_cq_0 g1_cq_0 B1 z1; intro f hf; have u4 : f 4 = (.pointer (some ⟨w.heap.size + 1, 0, none⟩)) := (by rw [← hf]; rfl); clear hf; rintro w' ⟨h0, h1, h2, h3, h4, h5, h6, h7, h8, h9, h10, h11, h12, h13, h14, h15, h16, h17, h18, h19, h20, h21, h22, h23, h24, h25, h26, h27⟩; go_simp; try exact IntWalk.i64_in _ (by omega)
  refine obe_val (by rfl) ?_ ?_
  · clear k1_b3_0 g1_b3_0 k1_b3_1 g1_b3_1 k1_b3_2 g1_b3_2 k1_b3_3 g1_b3_3 k1_b4_0 g1_b4_0 k1_b4_1 g1_b4_1 k1_b4_2 g1_b4_2 k1_b4_3 g1_b4_3 k1_b6_0 g1_b6_0 k1_b6_1 g1_b6_1 k1_b6_2 g1_b6_2 k1_b6_3 g1_b6_3 k1_cp_0 g1_cp_0 k1_cq_0 g1_cq_0 B1 z1; intro f hf; have u11 : f 11 = (.pointer (some ⟨w.heap.size + 1, 0, none⟩)) := (by rw [← hf]; rfl); clear hf; rintro w' ⟨h0, h1, h2, h3, h4, h5, h6, h7, h8, h9, h10, h11, h12, h13, h14, h15, h16, h17, h18, h19, h20, h21, h22, h23, h24, h25, h26, h27⟩; go_simp; try exact IntWalk.i64_in _ (by omega)
  refine obe_val (by rfl) ?_ ?_
  · clear k1_b3_0 g1_b3_0 k1_b3_1 g1_b3_1 k1_b3_2 g1_b3_2 k1_b3_3 g1_b3_3 k1_b4_0 g1_b4_0 k1_b4_1 g1_b4_1 k1_b4_2 g1_b4_2 k1_b4_3 g1_b4_3 k1_b6_0 g1_b6_0 k1_b6_1 g1_b6_1 k1_b6_2 g1_b6_2 k1_b6_3 g1_b6_3 k1_cp_0 g1_cp_0 k1_cq_0 g1_cq_0 B1 z1; intro f hf; have u12 : f 12 = (.int .u8 br) := (by rw [← hf]; rfl); clear hf; rintro w' ⟨h0, h1, h2, h3, h4, h5, h6, h7, h8, h9, h10, h11, h12, h13, h14, h15, h16, h17, h18, h19, h20, h21, h22, h23, h24, h25, h26, h27⟩; go_simp; try exact IntWalk.i64_in _ (by omega)
  refine obe_call (by rfl) ?_ ?_ ?_
  · clear k1_b3_0 g1_b3_0 k1_b3_1 g1_b3_1 k1_b3_2 g1_b3_2 k1_b3_3 g1_b3_3 k1_b4_0 g1_b4_0 k1_b4_1 g1_b4_1 k1_b4_2 g1_b4_2 k1_b4_3 g1_b4_3 k1_b6_0 g1_b6_0 k1_b6_1 g1_b6_1 k1_b6_2 g1_b6_2 k1_b6_3 g1_b6_3 k1_cp_0 g1_cp_0 k1_cq_0 g1_cq_0 B1 z1; intro f hf; have u7 : f 7 = (.func (.func 24) #[] #[.pointer (some ⟨p, 0, none⟩), .pointer (some ⟨q, 0, none⟩)]) := (by rw [← hf]; rfl); have u10 : f 10 = (.int .i64 ar) := (by rw [← hf]; rfl); have u13 : f 13 = (.int .i64 br) := (by rw [← hf]; rfl); clear hf; intro w' _; simp only [execOp, resolve, invoke, rhoF_tmp, rhoF_func, rhoF_const, u7, u10, u13, List.map_toArray, List.map_cons, List.map_nil]; go_simp
  · clear k1_b3_0 g1_b3_0 k1_b3_1 g1_b3_1 k1_b3_2 g1_b3_2 k1_b3_3 g1_b3_3 k1_b4_0 g1_b4_0 k1_b4_1 g1_b4_1 k1_b4_2 g1_b4_2 k1_b4_3 g1_b4_3 k1_b6_0 g1_b6_0 k1_b6_1 g1_b6_1 k1_b6_2 g1_b6_2 k1_b6_3 g1_b6_3 k1_cp_0 g1_cp_0 k1_cq_0 g1_cq_0 B1 z1; rintro w' ⟨h0, h1, h2, h3, h4, h5, h6, h7, h8, h9, h10, h11, h12, h13, h14, h15, h16, h17, h18, h19, h20, h21, h22, h23, h24, h25, h26, h27⟩; exact (c0 _ h24 h26).mono (by rintro e w2 ⟨rfl, nd, rfl⟩; exact ⟨rfl, below_drewN (Below.refl _ _) _⟩)
  refine obe_val (by rfl) ?_ ?_
  · clear k1_b3_0 g1_b3_0 k1_b3_1 g1_b3_1 k1_b3_2 g1_b3_2 k1_b3_3 g1_b3_3 k1_b4_0 g1_b4_0 k1_b4_1 g1_b4_1 k1_b4_2 g1_b4_2 k1_b4_3 g1_b4_3 k1_b6_0 g1_b6_0 k1_b6_1 g1_b6_1 k1_b6_2 g1_b6_2 k1_b6_3 g1_b6_3 k1_cp_0 g1_cp_0 k1_cq_0 g1_cq_0 B1 z1; intro f hf; have u2 : f 2 = (.func (.func 24) #[] #[.pointer (some ⟨p, 0, none⟩), .pointer (some ⟨q, 0, none⟩)]) := (by rw [← hf]; rfl); clear hf; rintro w' ⟨h0, h1, h2, h3, h4, h5, h6, h7, h8, h9, h10, h11, h12, h13, h14, h15, h16, h17, h18, h19, h20, h21, h22, h23, h24, h25, h26, h27⟩; go_simp; try exact IntWalk.i64_in _ (by omega)
  refine obe_val (by rfl) ?_ ?_
  · clear k1_b3_0 g1_b3_0 k1_b3_1 g1_b3_1 k1_b3_2 g1_b3_2 k1_b3_3 g1_b3_3 k1_b4_0 g1_b4_0 k1_b4_1 g1_b4_1 k1_b4_2 g1_b4_2 k1_b4_3 g1_b4_3 k1_b6_0 g1_b6_0 k1_b6_1 g1_b6_1 k1_b6_2 g1_b6_2 k1_b6_3 g1_b6_3 k1_cp_0 g1_cp_0 k1_cq_0 g1_cq_0 B1 z1; intro f hf; have u3 : f 3 = (.pointer (some ⟨w.heap.size, 0, none⟩)) := (by rw [← hf]; rfl); clear hf; rintro w' ⟨h0, h1, h2, h3, h4, h5, h6, h7, h8, h9, h10, h11, h12, h13, h14, h15, h16, h17, h18, h19, h20, h21, h22, h23, h24, h25, h26, h27⟩; go_simp; try exact IntWalk.i64_in _ (by omega)
  refine obe_val (by rfl) ?_ ?_
  · clear k1_b3_0 g1_b3_0 k1_b3_1 g1_b3_1 k1_b3_2 g1_b3_2 k1_b3_3 g1_b3_3 k1_b4_0 g1_b4_0 k1_b4_1 g1_b4_1 k1_b4_2 g1_b4_2 k1_b4_3 g1_b4_3 k1_b6_0 g1_b6_0 k1_b6_1 g1_b6_1 k1_b6_2 g1_b6_2 k1_b6_3 g1_b6_3 k1_cp_0 g1_cp_0 k1_cq_0 g1_cq_0 B1 z1; intro f hf; have u16 : f 16 = (.pointer (some ⟨w.heap.size, 1, none⟩)) := (by rw [← hf]; rfl); clear hf; rintro w' ⟨h0, h1, h2, h3, h4, h5, h6, h7, h8, h9, h10, h11, h12, h13, h14, h15, h16, h17, h18, h19, h20, h21, h22, h23, h24, h25, h26, h27⟩; go_simp; try exact IntWalk.i64_in _ (by omega)
  refine obe_val (by rfl) ?_ ?_
  · clear k1_b3_0 g1_b3_0 k1_b3_1 g1_b3_1 k1_b3_2 g1_b3_2 k1_b3_3 g1_b3_3 k1_b4_0 g1_b4_0 k1_b4_1 g1_b4_1 k1_b4_2 g1_b4_2 k1_b4_3 g1_b4_3 k1_b6_0 g1_b6_0 k1_b6_1 g1_b6_1 k1_b6_2 g1_b6_2 k1_b6_3 g1_b6_3 k1_cp_0 g1_cp_0 k1_cq_0 g1_cq_0 B1 z1; intro f hf; have u17 : f 17 = (.int .u8 ag) := (by rw [← hf]; rfl); clear hf; rintro w' ⟨h0, h1, h2, h3, h4, h5, h6, h7, h8, h9, h10, h11, h12, h13, h14, h15, h16, h17, h18, h19, h20, h21, h22, h23, h24, h25, h26, h27⟩; go_simp; try exact IntWalk.i64_in _ (by omega)
  refine obe_val (by rfl) ?_ ?_
  · clear k1_b3_0 g1_b3_0 k1_b3_1 g1_b3_1 k1_b3_2 g1_b3_2 k1_b3_3 g1_b3_3 k1_b4_0 g1_b4_0 k1_b4_1 g1_b4_1 k1_b4_2 g1_b4_2 k1_b4_3 g1_b4_3 k1_b6_0 g1_b6_0 k1_b6_1 g1_b6_1 k1_b6_2 g1_b6_2 k1_b6_3 g1_b6_3 k1_cp_0 g1_cp_0 k1_cq_0 g1_cq_0 B1 z1; intro f hf; have u4 : f 4 = (.pointer (some ⟨w.heap.size + 1, 0, none⟩)) := (by rw [← hf]; rfl); clear hf; rintro w' ⟨h0, h1, h2, h3, h4, h5, h6, h7, h8, h9, h10, h11, h12, h13, h14, h15, h16, h17, h18, h19, h20, h21, h22, h23, h24, h25, h26, h27⟩; go_simp; try exact IntWalk.i64_in _ (by omega)
  refine obe_val (by rfl) ?_ ?_
  · clear k1_b3_0 g1_b3_0 k1_b3_1 g1_b3_1 k1_b3_2 g1_b3_2 k1_b3_3 g1_b3_3 k1_b4_0 g1_b4_0 k1_b4_1 g1_b4_1 k1_b4_2 g1_b4_2 k1_b4_3 g1_b4_3 k1_b6_0 g1_b6_0 k1_b6_1 g1_b6_1 k1_b6_2 g1_b6_2 k1_b6_3 g1_b6_3 k1_cp_0 g1_cp_0 k1_cq_0 g1_cq_0 B1 z1; intro f hf; have u19 : f 19 = (.pointer (some ⟨w.heap.size + 1, 1, none⟩)) := (by rw [← hf]; rfl); clear hf; rintro w' ⟨h0, h1, h2, h3, h4, h5, h6, h7, h8, h9, h10, h11, h12, h13, h14, h15, h16, h17, h18, h19, h20, h21, h22, h23, h24, h25, h26, h27⟩; go_simp; try exact IntWalk.i64_in _ (by omega)
  refine obe_val (by rfl) ?_ ?_
  · clear k1_b3_0 g1_b3_0 k1_b3_1 g1_b3_1 k1_b3_2 g1_b3_2 k1_b3_3 g1_b3_3 k1_b4_0 g1_b4_0 k1_b4_1 g1_b4_1 k1_b4_2 g1_b4_2 k1_b4_3 g1_b4_3 k1_b6_0 g1_b6_0 k1_b6_1 g1_b6_1 k1_b6_2 g1_b6_2 k1_b6_3 g1_b6_3 k1_cp_0 g1_cp_0 k1_cq_0 g1_cq_0 B1 z1; intro f hf; have u20 : f 20 = (.int .u8 bg) := (by rw [← hf]; rfl); clear hf; rintro w' ⟨h0, h1, h2, h3, h4, h5, h6, h7, h8, h9, h10, h11, h12, h13, h14, h15, h16, h17, h18, h19, h20, h21, h22, h23, h24, h25, h26, h27⟩; go_simp; try exact IntWalk.i64_in _ (by omega)
  refine obe_call (by rfl) ?_ ?_ ?_
  · clear k1_b3_0 g1_b3_0 k1_b3_1 g1_b3_1 k1_b3_2 g1_b3_2 k1_b3_3 g1_b3_3 k1_b4_0 g1_b4_0 k1_b4_1 g1_b4_1 k1_b4_2 g1_b4_2 k1_b4_3 g1_b4_3 k1_b6_0 g1_b6_0 k1_b6_1 g1_b6_1 k1_b6_2 g1_b6_2 k1_b6_3 g1_b6_3 k1_cp_0 g1_cp_0 k1_cq_0 g1_cq_0 B1 z1; intro f hf; have u15 : f 15 = (.func (.func 24) #[] #[.pointer (some ⟨p, 0, none⟩), .pointer (some ⟨q, 0, none⟩)]) := (by rw [← hf]; rfl); have u18 : f 18 = (.int .i64 ag) := (by rw [← hf]; rfl); have u21 : f 21 = (.int .i64 bg) := (by rw [← hf]; rfl); clear hf; intro w' _; simp only [execOp, resolve, invoke, rhoF_tmp, rhoF_func, rhoF_const, u15, u18, u21, List.map_toArray, List.map_cons, List.map_nil]; go_simp
  · clear k1_b3_0 g1_b3_0 k1_b3_1 g1_b3_1 k1_b3_2 g1_b3_2 k1_b3_3 g1_b3_3 k1_b4_0 g1_b4_0 k1_b4_1 g1_b4_1 k1_b4_2 g1_b4_2 k1_b4_3 g1_b4_3 k1_b6_0 g1_b6_0 k1_b6_1 g1_b6_1 k1_b6_2 g1_b6_2 k1_b6_3 g1_b6_3 k1_cp_0 g1_cp_0 k1_cq_0 g1_cq_0 B1 z1; rintro w' ⟨h0, h1, h2, h3, h4, h5, h6, h7, h8, h9, h10, h11, h12, h13, h14, h15, h16, h17, h18, h19, h20, h21, h22, h23, h24, h25, h26, h27⟩; exact (c1 _ h24 h26).mono (by rintro e w2 ⟨rfl, nd, rfl⟩; exact ⟨rfl, below_drewN (Below.refl _ _) _⟩)
  refine obe_val (by rfl) ?_ ?_
  · clear k1_b3_0 g1_b3_0 k1_b3_1 g1_b3_1 k1_b3_2 g1_b3_2 k1_b3_3 g1_b3_3 k1_b4_0 g1_b4_0 k1_b4_1 g1_b4_1 k1_b4_2 g1_b4_2 k1_b4_3 g1_b4_3 k1_b6_0 g1_b6_0 k1_b6_1 g1_b6_1 k1_b6_2 g1_b6_2 k1_b6_3 g1_b6_3 k1_cp_0 g1_cp_0 k1_cq_0 g1_cq_0 B1 z1; intro f hf; have u2 : f 2 = (.func (.func 24) #[] #[.pointer (some ⟨p, 0, none⟩), .pointer (some ⟨q, 0, none⟩)]) := (by rw [← hf]; rfl); clear hf; rintro w' ⟨h0, h1, h2, h3, h4, h5, h6, h7, h8, h9, h10, h11, h12, h13, h14, h15, h16, h17, h18, h19, h20, h21, h22, h23, h24, h25, h26, h27⟩; go_simp; try exact IntWalk.i64_in _ (by omega)
  refine obe_val (by rfl) ?_ ?_
  · clear k1_b3_0 g1_b3_0 k1_b3_1 g1_b3_1 k1_b3_2 g1_b3_2 k1_b3_3 g1_b3_3 k1_b4_0 g1_b4_0 k1_b4_1 g1_b4_1 k1_b4_2 g1_b4_2 k1_b4_3 g1_b4_3 k1_b6_0 g1_b6_0 k1_b6_1 g1_b6_1 k1_b6_2 g1_b6_2 k1_b6_3 g1_b6_3 k1_cp_0 g1_cp_0 k1_cq_0 g1_cq_0 B1 z1; intro f hf; have u3 : f 3 = (.pointer (some ⟨w.heap.size, 0, none⟩)) := (by rw [← hf]; rfl); clear hf; rintro w' ⟨h0, h1, h2, h3, h4, h5, h6, h7, h8, h9, h10, h11, h12, h13, h14, h15, h16, h17, h18, h19, h20, h21, h22, h23, h24, h25, h26, h27⟩; go_simp; try exact IntWalk.i64_in _ (by omega)
  refine obe_val (by rfl) ?_ ?_
  · clear k1_b3_0 g1_b3_0 k1_b3_1 g1_b3_1 k1_b3_2 g1_b3_2 k1_b3_3 g1_b3_3 k1_b4_0 g1_b4_0 k1_b4_1 g1_b4_1 k1_b4_2 g1_b4_2 k1_b4_3 g1_b4_3 k1_b6_0 g1_b6_0 k1_b6_1 g1_b6_1 k1_b6_2 g1_b6_2 k1_b6_3 g1_b6_3 k1_cp_0 g1_cp_0 k1_cq_0 g1_cq_0 B1 z1; intro f hf; have u24 : f 24 = (.pointer (some ⟨w.heap.size, 2, none⟩)) := (by rw [← hf]; rfl); clear hf; rintro w' ⟨h0, h1, h2, h3, h4, h5, h6, h7, h8, h9, h10, h11, h12, h13, h14, h15, h16, h17, h18, h19, h20, h21, h22, h23, h24, h25, h26, h27⟩; go_simp; try exact IntWalk.i64_in _ (by omega)
  refine obe_val (by rfl) ?_ ?_
  · clear k1_b3_0 g1_b3_0 k1_b3_1 g1_b3_1 k1_b3_2 g1_b3_2 k1_b3_3 g1_b3_3 k1_b4_0 g1_b4_0 k1_b4_1 g1_b4_1 k1_b4_2 g1_b4_2 k1_b4_3 g1_b4_3 k1_b6_0 g1_b6_0 k1_b6_1 g1_b6_1 k1_b6_2 g1_b6_2 k1_b6_3 g1_b6_3 k1_cp_0 g1_cp_0 k1_cq_0 g1_cq_0 B1 z1; intro f hf; have u25 : f 25 = (.int .u8 ab) := (by rw [← hf]; rfl); clear hf; rintro w' ⟨h0, h1, h2, h3, h4, h5, h6, h7, h8, h9, h10, h11, h12, h13, h14, h15, h16, h17, h18, h19, h20, h21, h22, h23, h24, h25, h26, h27⟩; go_simp; try exact IntWalk.i64_in _ (by omega)
  refine obe_val (by rfl) ?_ ?_
  · clear k1_b3_0 g1_b3_0 k1_b3_1 g1_b3_1 k1_b3_2 g1_b3_2 k1_b3_3 g1_b3_3 k1_b4_0 g1_b4_0 k1_b4_1 g1_b4_1 k1_b4_2 g1_b4_2 k1_b4_3 g1_b4_3 k1_b6_0 g1_b6_0 k1_b6_1 g1_b6_1 k1_b6_2 g1_b6_2 k1_b6_3 g1_b6_3 k1_cp_0 g1_cp_0 k1_cq_0 g1_cq_0 B1 z1; intro f hf; have u4 : f 4 = (.pointer (some ⟨w.heap.size + 1, 0, none⟩)) := (by rw [← hf]; rfl); clear hf; rintro w' ⟨h0, h1, h2, h3, h4, h5, h6, h7, h8, h9, h10, h11, h12, h13, h14, h15, h16, h17, h18, h19, h20, h21, h22, h23, h24, h25, h26, h27⟩; go_simp; try exact IntWalk.i64_in _ (by omega)
  refine obe_val (by rfl) ?_ ?_
  · clear k1_b3_0 g1_b3_0 k1_b3_1 g1_b3_1 k1_b3_2 g1_b3_2 k1_b3_3 g1_b3_3 k1_b4_0 g1_b4_0 k1_b4_1 g1_b4_1 k1_b4_2 g1_b4_2 k1_b4_3 g1_b4_3 k1_b6_0 g1_b6_0 k1_b6_1 g1_b6_1 k1_b6_2 g1_b6_2 k1_b6_3 g1_b6_3 k1_cp_0 g1_cp_0 k1_cq_0 g1_cq_0 B1 z1; intro f hf; have u27 : f 27 = (.pointer (some ⟨w.heap.size + 1, 2, none⟩)) := (by rw [← hf]; rfl); clear hf; rintro w' ⟨h0, h1, h2, h3, h4, h5, h6, h7, h8, h9, h10, h11, h12, h13, h14, h15, h16, h17, h18, h19, h20, h21, h22, h23, h24, h25, h26, h27⟩; go_simp; try exact IntWalk.i64_in _ (by omega)
  refine obe_val (by rfl) ?_ ?_
  · clear k1_b3_0 g1_b3_0 k1_b3_1 g1_b3_1 k1_b3_2 g1_b3_2 k1_b3_3 g1_b3_3 k1_b4_0 g1_b4_0 k1_b4_1 g1_b4_1 k1_b4_2 g1_b4_2 k1_b4_3 g1_b4_3 k1_b6_0 g1_b6_0 k1_b6_1 g1_b6_1 k1_b6_2 g1_b6_2 k1_b6_3 g1_b6_3 k1_cp_0 g1_cp_0 k1_cq_0 g1_cq_0 B1 z1; intro f hf; have u28 : f 28 = (.int .u8 bb) := (by rw [← hf]; rfl); clear hf; rintro w' ⟨h0, h1, h2, h3, h4, h5, h6, h7, h8, h9, h10, h11, h12, h13, h14, h15, h16, h17, h18, h19, h20, h21, h22, h23, h24, h25, h26, h27⟩; go_simp; try exact IntWalk.i64_in _ (by omega)
  refine obe_call (by rfl) ?_ ?_ ?_
  · clear k1_b3_0 g1_b3_0 k1_b3_1 g1_b3_1 k1_b3_2 g1_b3_2 k1_b3_3 g1_b3_3 k1_b4_0 g1_b4_0 k1_b4_1 g1_b4_1 k1_b4_2 g1_b4_2 k1_b4_3 g1_b4_3 k1_b6_0 g1_b6_0 k1_b6_1 g1_b6_1 k1_b6_2 g1_b6_2 k1_b6_3 g1_b6_3 k1_cp_0 g1_cp_0 k1_cq_0 g1_cq_0 B1 z1; intro f hf; have u23 : f 23 = (.func (.func 24) #[] #[.pointer (some ⟨p, 0, none⟩), .pointer (some ⟨q, 0, none⟩)]) := (by rw [← hf]; rfl); have u26 : f 26 = (.int .i64 ab) := (by rw [← hf]; rfl); have u29 : f 29 = (.int .i64 bb) := (by rw [← hf]; rfl); clear hf; intro w' _; simp only [execOp, resolve, invoke, rhoF_tmp, rhoF_func, rhoF_const, u23, u26, u29, List.map_toArray, List.map_cons, List.map_nil]; go_simp
  · clear k1_b3_0 g1_b3_0 k1_b3_1 g1_b3_1 k1_b3_2 g1_b3_2 k1_b3_3 g1_b3_3 k1_b4_0 g1_b4_0 k1_b4_1 g1_b4_1 k1_b4_2 g1_b4_2 k1_b4_3 g1_b4_3 k1_b6_0 g1_b6_0 k1_b6_1 g1_b6_1 k1_b6_2 g1_b6_2 k1_b6_3 g1_b6_3 k1_cp_0 g1_cp_0 k1_cq_0 g1_cq_0 B1 z1; rintro w' ⟨h0, h1, h2, h3, h4, h5, h6, h7, h8, h9, h10, h11, h12, h13, h14, h15, h16, h17, h18, h19, h20, h21, h22, h23, h24, h25, h26, h27⟩; exact (c2 _ h24 h26).mono (by rintro e w2 ⟨rfl, nd, rfl⟩; exact ⟨rfl, below_drewN (Below.refl _ _) _⟩)
  refine obe_val (by rfl) ?_ ?_
  · clear k1_b3_0 g1_b3_0 k1_b3_1 g1_b3_1 k1_b3_2 g1_b3_2 k1_b3_3 g1_b3_3 k1_b4_0 g1_b4_0 k1_b4_1 g1_b4_1 k1_b4_2 g1_b4_2 k1_b4_3 g1_b4_3 k1_b6_0 g1_b6_0 k1_b6_1 g1_b6_1 k1_b6_2 g1_b6_2 k1_b6_3 g1_b6_3 k1_cp_0 g1_cp_0 k1_cq_0 g1_cq_0 B1 z1; intro f hf; have u2 : f 2 = (.func (.func 24) #[] #[.pointer (some ⟨p, 0, none⟩), .pointer (some ⟨q, 0, none⟩)]) := (by rw [← hf]; rfl); clear hf; rintro w' ⟨h0, h1, h2, h3, h4, h5, h6, h7, h8, h9, h10, h11, h12, h13, h14, h15, h16, h17, h18, h19, h20, h21, h22, h23, h24, h25, h26, h27⟩; go_simp; try exact IntWalk.i64_in _ (by omega)
  refine obe_val (by rfl) ?_ ?_
  · clear k1_b3_0 g1_b3_0 k1_b3_1 g1_b3_1 k1_b3_2 g1_b3_2 k1_b3_3 g1_b3_3 k1_b4_0 g1_b4_0 k1_b4_1 g1_b4_1 k1_b4_2 g1_b4_2 k1_b4_3 g1_b4_3 k1_b6_0 g1_b6_0 k1_b6_1 g1_b6_1 k1_b6_2 g1_b6_2 k1_b6_3 g1_b6_3 k1_cp_0 g1_cp_0 k1_cq_0 g1_cq_0 B1 z1; intro f hf; have u3 : f 3 = (.pointer (some ⟨w.heap.size, 0, none⟩)) := (by rw [← hf]; rfl); clear hf; rintro w' ⟨h0, h1, h2, h3, h4, h5, h6, h7, h8, h9, h10, h11, h12, h13, h14, h15, h16, h17, h18, h19, h20, h21, h22, h23, h24, h25, h26, h27⟩; go_simp; try exact IntWalk.i64_in _ (by omega)
  refine obe_val (by rfl) ?_ ?_
  · clear k1_b3_0 g1_b3_0 k1_b3_1 g1_b3_1 k1_b3_2 g1_b3_2 k1_b3_3 g1_b3_3 k1_b4_0 g1_b4_0 k1_b4_1 g1_b4_1 k1_b4_2 g1_b4_2 k1_b4_3 g1_b4_3 k1_b6_0 g1_b6_0 k1_b6_1 g1_b6_1 k1_b6_2 g1_b6_2 k1_b6_3 g1_b6_3 k1_cp_0 g1_cp_0 k1_cq_0 g1_cq_0 B1 z1; intro f hf; have u32 : f 32 = (.pointer (some ⟨w.heap.size, 3, none⟩)) := (by rw [← hf]; rfl); clear hf; rintro w' ⟨h0, h1, h2, h3, h4, h5, h6, h7, h8, h9, h10, h11, h12, h13, h14, h15, h16, h17, h18, h19, h20, h21, h22, h23, h24, h25, h26, h27⟩; go_simp; try exact IntWalk.i64_in _ (by omega)
  refine obe_val (by rfl) ?_ ?_
  · clear k1_b3_0 g1_b3_0 k1_b3_1 g1_b3_1 k1_b3_2 g1_b3_2 k1_b3_3 g1_b3_3 k1_b4_0 g1_b4_0 k1_b4_1 g1_b4_1 k1_b4_2 g1_b4_2 k1_b4_3 g1_b4_3 k1_b6_0 g1_b6_0 k1_b6_1 g1_b6_1 k1_b6_2 g1_b6_2 k1_b6_3 g1_b6_3 k1_cp_0 g1_cp_0 k1_cq_0 g1_cq_0 B1 z1; intro f hf; have u33 : f 33 = (.int .u8 aa) := (by rw [← hf]; rfl); clear hf; rintro w' ⟨h0, h1, h2, h3, h4, h5, h6, h7, h8, h9, h10, h11, h12, h13, h14, h15, h16, h17, h18, h19, h20, h21, h22, h23, h24, h25, h26, h27⟩; go_simp; try exact IntWalk.i64_in _ (by omega)
  refine obe_val (by rfl) ?_ ?_
  · clear k1_b3_0 g1_b3_0 k1_b3_1 g1_b3_1 k1_b3_2 g1_b3_2 k1_b3_3 g1_b3_3 k1_b4_0 g1_b4_0 k1_b4_1 g1_b4_1 k1_b4_2 g1_b4_2 k1_b4_3 g1_b4_3 k1_b6_0 g1_b6_0 k1_b6_1 g1_b6_1 k1_b6_2 g1_b6_2 k1_b6_3 g1_b6_3 k1_cp_0 g1_cp_0 k1_cq_0 g1_cq_0 B1 z1; intro f hf; have u4 : f 4 = (.pointer (some ⟨w.heap.size + 1, 0, none⟩)) := (by rw [← hf]; rfl); clear hf; rintro w' ⟨h0, h1, h2, h3, h4, h5, h6, h7, h8, h9, h10, h11, h12, h13, h14, h15, h16, h17, h18, h19, h20, h21, h22, h23, h24, h25, h26, h27⟩; go_simp; try exact IntWalk.i64_in _ (by omega)
  refine obe_val (by rfl) ?_ ?_
  · clear k1_b3_0 g1_b3_0 k1_b3_1 g1_b3_1 k1_b3_2 g1_b3_2 k1_b3_3 g1_b3_3 k1_b4_0 g1_b4_0 k1_b4_1 g1_b4_1 k1_b4_2 g1_b4_2 k1_b4_3 g1_b4_3 k1_b6_0 g1_b6_0 k1_b6_1 g1_b6_1 k1_b6_2 g1_b6_2 k1_b6_3 g1_b6_3 k1_cp_0 g1_cp_0 k1_cq_0 g1_cq_0 B1 z1; intro f hf; have u35 : f 35 = (.pointer (some ⟨w.heap.size + 1, 3, none⟩)) := (by rw [← hf]; rfl); clear hf; rintro w' ⟨h0, h1, h2, h3, h4, h5, h6, h7, h8, h9, h10, h11, h12, h13, h14, h15, h16, h17, h18, h19, h20, h21, h22, h23, h24, h25, h26, h27⟩; go_simp; try exact IntWalk.i64_in _ (by omega)
  refine obe_val (by rfl) ?_ ?_
  · clear k1_b3_0 g1_b3_0 k1_b3_1 g1_b3_1 k1_b3_2 g1_b3_2 k1_b3_3 g1_b3_3 k1_b4_0 g1_b4_0 k1_b4_1 g1_b4_1 k1_b4_2 g1_b4_2 k1_b4_3 g1_b4_3 k1_b6_0 g1_b6_0 k1_b6_1 g1_b6_1 k1_b6_2 g1_b6_2 k1_b6_3 g1_b6_3 k1_cp_0 g1_cp_0 k1_cq_0 g1_cq_0 B1 z1; intro f hf; have u36 : f 36 = (.int .u8 ba) := (by rw [← hf]; rfl); clear hf; rintro w' ⟨h0, h1, h2, h3, h4, h5, h6, h7, h8, h9, h10, h11, h12, h13, h14, h15, h16, h17, h18, h19, h20, h21, h22, h23, h24, h25, h26, h27⟩; go_simp; try exact IntWalk.i64_in _ (by omega)
  refine obe_call (by rfl) ?_ ?_ ?_
  · clear k1_b3_0 g1_b3_0 k1_b3_1 g1_b3_1 k1_b3_2 g1_b3_2 k1_b3_3 g1_b3_3 k1_b4_0 g1_b4_0 k1_b4_1 g1_b4_1 k1_b4_2 g1_b4_2 k1_b4_3 g1_b4_3 k1_b6_0 g1_b6_0 k1_b6_1 g1_b6_1 k1_b6_2 g1_b6_2 k1_b6_3 g1_b6_3 k1_cp_0 g1_cp_0 k1_cq_0 g1_cq_0 B1 z1; intro f hf; have u31 : f 31 = (.func (.func 24) #[] #[.pointer (some ⟨p, 0, none⟩), .pointer (some ⟨q, 0, none⟩)]) := (by rw [← hf]; rfl); have u34 : f 34 = (.int .i64 aa) := (by rw [← hf]; rfl); have u37 : f 37 = (.int .i64 ba) := (by rw [← hf]; rfl); clear hf; intro w' _; simp only [execOp, resolve, invoke, rhoF_tmp, rhoF_func, rhoF_const, u31, u34, u37, List.map_toArray, List.map_cons, List.map_nil]; go_simp
  · clear k1_b3_0 g1_b3_0 k1_b3_1 g1_b3_1 k1_b3_2 g1_b3_2 k1_b3_3 g1_b3_3 k1_b4_0 g1_b4_0 k1_b4_1 g1_b4_1 k1_b4_2 g1_b4_2 k1_b4_3 g1_b4_3 k1_b6_0 g1_b6_0 k1_b6_1 g1_b6_1 k1_b6_2 g1_b6_2 k1_b6_3 g1_b6_3 k1_cp_0 g1_cp_0 k1_cq_0 g1_cq_0 B1 z1; rintro w' ⟨h0, h1, h2, h3, h4, h5, h6, h7, h8, h9, h10, h11, h12, h13, h14, h15, h16, h17, h18, h19, h20, h21, h22, h23, h24, h25, h26, h27⟩; exact (c3 _ h24 h26).mono (by rintro e w2 ⟨rfl, nd, rfl⟩; exact ⟨rfl, below_drewN (Below.refl _ _) _⟩)
  refine obe_val (by rfl) ?_ ?_
  · clear k1_b3_0 g1_b3_0 k1_b3_1 g1_b3_1 k1_b3_2 g1_b3_2 k1_b3_3 g1_b3_3 k1_b4_0 g1_b4_0 k1_b4_1 g1_b4_1 k1_b4_2 g1_b4_2 k1_b4_3 g1_b4_3 k1_b6_0 g1_b6_0 k1_b6_1 g1_b6_1 k1_b6_2 g1_b6_2 k1_b6_3 g1_b6_3 k1_cp_0 g1_cp_0 k1_cq_0 g1_cq_0 B1 z1; intro f hf; have u14 : f 14 = (.int .u8 l0) := (by rw [← hf]; rfl); have u22 : f 22 = (.int .u8 l1) := (by rw [← hf]; rfl); have u30 : f 30 = (.int .u8 l2) := (by rw [← hf]; rfl); have u38 : f 38 = (.int .u8 l3) := (by rw [← hf]; rfl); clear hf; rintro w' ⟨h0, h1, h2, h3, h4, h5, h6, h7, h8, h9, h10, h11, h12, h13, h14, h15, h16, h17, h18, h19, h20, h21, h22, h23, h24, h25, h26, h27⟩; go_simp; try exact IntWalk.i64_in _ (by omega)
  refine obe_nil ?_
  rintro w2 ⟨h0, h1, h2, h3, h4, h5, h6, h7, h8, h9, h10, h11, h12, h13, h14, h15, h16, h17, h18, h19, h20, h21, h22, h23, h24, h25, h26, h27⟩ hb2 hF
  (try simp only [List.nil_append, List.append_nil, List.cons_append] at hF)
  simp only [puts, putD, Act.put, List.setIfInBounds_toArray, List.set_cons_zero, List.set_cons_succ]
  clear hF
  have k2_b3_0 := bcs hb2 k1_b3_0
  have g2_b3_0 := bfs hb2 k1_b3_0 g1_b3_0
  have k2_b3_1 := bcs hb2 k1_b3_1
  have g2_b3_1 := bfs hb2 k1_b3_1 g1_b3_1
  have k2_b3_2 := bcs hb2 k1_b3_2
  have g2_b3_2 := bfs hb2 k1_b3_2 g1_b3_2
  have k2_b3_3 := bcs hb2 k1_b3_3
  have g2_b3_3 := bfs hb2 k1_b3_3 g1_b3_3
  have k2_b4_0 := bcs hb2 k1_b4_0
  have g2_b4_0 := bfs hb2 k1_b4_0 g1_b4_0
  have k2_b4_1 := bcs hb2 k1_b4_1
  have g2_b4_1 := bfs hb2 k1_b4_1 g1_b4_1
  have k2_b4_2 := bcs hb2 k1_b4_2
  have g2_b4_2 := bfs hb2 k1_b4_2 g1_b4_2
  have k2_b4_3 := bcs hb2 k1_b4_3
  have g2_b4_3 := bfs hb2 k1_b4_3 g1_b4_3
  have k2_b6_0 := bcs hb2 k1_b6_0
  have g2_b6_0 := bfs hb2 k1_b6_0 g1_b6_0
  have k2_b6_1 := bcs hb2 k1_b6_1
  have g2_b6_1 := bfs hb2 k1_b6_1 g1_b6_1
  have k2_b6_2 := bcs hb2 k1_b6_2
  have g2_b6_2 := bfs hb2 k1_b6_2 g1_b6_2
  have k2_b6_3 := bcs hb2 k1_b6_3
  have g2_b6_3 := bfs hb2 k1_b6_3 g1_b6_3
  have k2_cp_0 := bcs hb2 k1_cp_0
  have g2_cp_0 := bfs hb2 k1_cp_0 g1_cp_0
  have k2_cq_0 := bcs hb2 k1_cq_0
  have g2_cq_0 := bfs hb2 k1_cq_0 g1_cq_0
  clear h0 h1 h2 h3 h4 h5 h6 h7 h8 h9 h10 h11 h12 h13 h14 h15 h16 h17 h18 h19 h20 h21 h22 h23 h24 h25 h26 h27
  have B2 := bel_step B1 hb2
  have z2 := Nat.le_trans z1 hb2.size
  clear hb2
  (try clear B1)
  (try clear z1)
  (try clear k1_b3_0)
  (try clear g1_b3_0)
  (try clear k1_b3_1)
  (try clear g1_b3_1)
  (try clear k1_b3_2)
  (try clear g1_b3_2)
  (try clear k1_b3_3)
  (try clear g1_b3_3)
  (try clear k1_b4_0)
  (try clear g1_b4_0)
  (try clear k1_b4_1)
  (try clear g1_b4_1)
  (try clear k1_b4_2)
  (try clear g1_b4_2)
  (try clear k1_b4_3)
  (try clear g1_b4_3)
  (try clear k1_b6_0)
  (try clear g1_b6_0)
  (try clear k1_b6_1)
  (try clear g1_b6_1)
  (try clear k1_b6_2)
  (try clear g1_b6_2)
  (try clear k1_b6_3)
  (try clear g1_b6_3)
  (try clear k1_cp_0)
  (try clear g1_cp_0)
  (try clear k1_cq_0)
  (try clear g1_cq_0)
  (try clear q1_b3)
  (try clear x1_b3)
  (try clear y1_b3)
  (try clear q1_b4)
  (try clear x1_b4)
  (try clear y1_b4)
  (try clear q1_b6)
  (try clear x1_b6)
  (try clear y1_b6)
  (try clear q1_cp)
  (try clear x1_cp)
  (try clear y1_cp)
  (try clear q1_cq)
  (try clear x1_cq)
  (try clear y1_cq)
  have q2_b3 : w.heap.size < w2.heap.size := qlt k2_b3_0
  have x2_b3 : ¬ w.heap.size = w2.heap.size := qne k2_b3_0
  have y2_b3 : ¬ w2.heap.size = w.heap.size := fun h => qne k2_b3_0 h.symm
  have q2_b4 : w.heap.size + 1 < w2.heap.size := qlt k2_b4_0
  have x2_b4 : ¬ w.heap.size + 1 = w2.heap.size := qne k2_b4_0
  have y2_b4 : ¬ w2.heap.size = w.heap.size + 1 := fun h => qne k2_b4_0 h.symm
  have q2_b6 : w.heap.size + 1 + 1 < w2.heap.size := qlt k2_b6_0
  have x2_b6 : ¬ w.heap.size + 1 + 1 = w2.heap.size := qne k2_b6_0
  have y2_b6 : ¬ w2.heap.size = w.heap.size + 1 + 1 := fun h => qne k2_b6_0 h.symm
  have q2_cp : p < w2.heap.size := qlt k2_cp_0
  have x2_cp : ¬ p = w2.heap.size := qne k2_cp_0
  have y2_cp : ¬ w2.heap.size = p := fun h => qne k2_cp_0 h.symm
  have q2_cq : q < w2.heap.size := qlt k2_cq_0
  have x2_cq : ¬ q = w2.heap.size := qne k2_cq_0
  have y2_cq : ¬ w2.heap.size = q := fun h => qne k2_cq_0 h.symm
  go_wp2
  refine bodyPost_ret (v := .agg #[.int .u8 l0, .int .u8 l1, .int .u8 l2, .int .u8 l3]) (by simp [results, Try.results23, go_sem, *]) rfl ⟨rfl, ?_⟩
  repeat (first | with_reducible exact Below.refl _ _ | with_reducible exact B2 | with_reducible apply below_drewN | with_reducible apply Below.drew | (with_reducible refine Below.alloc ?_ (by first | (simp; done) | (simp; omega) | omega) _) | (with_reducible refine Below.setCell ?_ (by first | (simp; done) | (simp; omega) | omega) _))

set_option maxHeartbeats 4000000 in
theorem lerpC_any (ar ag ab aa br bg bb ba n d m : Int) (hm : clampV n 0 d = m) (ar0 : 0 ≤ ar) (ar1 : ar ≤ 255) (ag0 : 0 ≤ ag) (ag1 : ag ≤ 255) (ab0 : 0 ≤ ab) (ab1 : ab ≤ 255) (aa0 : 0 ≤ aa) (aa1 : aa ≤ 255) (br0 : 0 ≤ br) (br1 : br ≤ 255) (bg0 : 0 ≤ bg) (bg1 : bg ≤ 255) (bb0 : 0 ≤ bb) (bb1 : bb ≤ 255) (ba0 : 0 ≤ ba) (ba1 : ba ≤ 255) (m0 : 0 ≤ m) (m1 : m ≤ d) (d0 : 1 ≤ d) (d1 : d ≤ 1099511627776) (w : World) :
    Calls Try.prog 20 #[.agg #[.int .u8 ar, .int .u8 ag, .int .u8 ab, .int .u8 aa], .agg #[.int .u8 br, .int .u8 bg, .int .u8 bb, .int .u8 ba], .int .i64 n, .int .i64 d] w fun e w' => e = .returned (.agg #[.int .u8 (lc ar br m d), .int .u8 (lc ag bg m d), .int .u8 (lc ab bb m d), .int .u8 (lc aa ba m d)]) ∧ Below w.heap.size w w' := by
  have hmf : ∀ (fn : Fn) (first cap : Array Value) (w : World), (Instr.makeFunc fn first cap).run Try.prog w = .ok (.func fn first cap) w := fun _ _ _ _ => rfl
  have ck := fun w => clamp_any n 0 d w
  rw [hm] at ck
  have cc := fun w p q => combine_any ar ag ab aa br bg bb ba m d p q ar0 ar1 ag0 ag1 ab0 ab1 aa0 aa1 br0 br1 bg0 bg1 bb0 bb1 ba0 ba1 m0 m1 d0 d1 w
  obtain ⟨l0, hl0⟩ : ∃ x, lc ar br m d = x := ⟨_, rfl⟩
  obtain ⟨l1, hl1⟩ : ∃ x, lc ag bg m d = x := ⟨_, rfl⟩
  obtain ⟨l2, hl2⟩ : ∃ x, lc ab bb m d = x := ⟨_, rfl⟩
  obtain ⟨l3, hl3⟩ : ∃ x, lc aa ba m d = x := ⟨_, rfl⟩
  rw [hl0, hl1, hl2, hl3] at cc ⊢
  clear hl0 hl1 hl2 hl3 hm
  go_enter Try.func20, Try.ntmps20
  go_wp2_with (first | (go_at_call 15; (with_reducible refine (ck _).mono ?_); rintro e w9 ⟨rfl, rfl⟩) | (go_at_call 23; (with_reducible refine (cc _ _ _ (by go_simp) (by go_simp) (by go_simp) (by go_simp)).mono ?_); rintro e w1 ⟨rfl, hb1⟩; have k1_b4_0 : w1.cell? ⟨w.heap.size, 0, none⟩ = some (.int .u8 ar) := bcs hb1 (by go_simp); have g1_b4_0 : w1.frozen? ⟨w.heap.size, 0, none⟩ = false := bfs hb1 (v := .int .u8 ar) (by go_simp) (by go_simp); have k1_b4_1 : w1.cell? ⟨w.heap.size, 1, none⟩ = some (.int .u8 ag) := bcs hb1 (by go_simp); have g1_b4_1 : w1.frozen? ⟨w.heap.size, 1, none⟩ = false := bfs hb1 (v := .int .u8 ag) (by go_simp) (by go_simp); have k1_b4_2 : w1.cell? ⟨w.heap.size, 2, none⟩ = some (.int .u8 ab) := bcs hb1 (by go_simp); have g1_b4_2 : w1.frozen? ⟨w.heap.size, 2, none⟩ = false := bfs hb1 (v := .int .u8 ab) (by go_simp) (by go_simp); have k1_b4_3 : w1.cell? ⟨w.heap.size, 3, none⟩ = some (.int .u8 aa) := bcs hb1 (by go_simp); have g1_b4_3 : w1.frozen? ⟨w.heap.size, 3, none⟩ = false := bfs hb1 (v := .int .u8 aa) (by go_simp) (by go_simp); have k1_b5_0 : w1.cell? ⟨w.heap.size + 1, 0, none⟩ = some (.int .u8 br) := bcs hb1 (by go_simp); have g1_b5_0 : w1.frozen? ⟨w.heap.size + 1, 0, none⟩ = false := bfs hb1 (v := .int .u8 br) (by go_simp) (by go_simp); have k1_b5_1 : w1.cell? ⟨w.heap.size + 1, 1, none⟩ = some (.int .u8 bg) := bcs hb1 (by go_simp); have g1_b5_1 : w1.frozen? ⟨w.heap.size + 1, 1, none⟩ = false := bfs hb1 (v := .int .u8 bg) (by go_simp) (by go_simp); have k1_b5_2 : w1.cell? ⟨w.heap.size + 1, 2, none⟩ = some (.int .u8 bb) := bcs hb1 (by go_simp); have g1_b5_2 : w1.frozen? ⟨w.heap.size + 1, 2, none⟩ = false := bfs hb1 (v := .int .u8 bb) (by go_simp) (by go_simp); have k1_b5_3 : w1.cell? ⟨w.heap.size + 1, 3, none⟩ = some (.int .u8 ba) := bcs hb1 (by go_simp); have g1_b5_3 : w1.frozen? ⟨w.heap.size + 1, 3, none⟩ = false := bfs hb1 (v := .int .u8 ba) (by go_simp) (by go_simp); have k1_b6_0 : w1.cell? ⟨w.heap.size + 1 + 1, 0, none⟩ = some (.int .i64 m) := bcs hb1 (by go_simp); have g1_b6_0 : w1.frozen? ⟨w.heap.size + 1 + 1, 0, none⟩ = false := bfs hb1 (v := .int .i64 m) (by go_simp) (by go_simp); have k1_b7_0 : w1.cell? ⟨w.heap.size + 1 + 1 + 1, 0, none⟩ = some (.int .i64 d) := bcs hb1 (by go_simp); have g1_b7_0 : w1.frozen? ⟨w.heap.size + 1 + 1 + 1, 0, none⟩ = false := bfs hb1 (v := .int .i64 d) (by go_simp) (by go_simp); have k1_b8_0 : w1.cell? ⟨w.heap.size + 1 + 1 + 1 + 1, 0, none⟩ = some (.int .u8 0) := bcs hb1 (by go_simp); have g1_b8_0 : w1.frozen? ⟨w.heap.size + 1 + 1 + 1 + 1, 0, none⟩ = false := bfs hb1 (v := .int .u8 0) (by go_simp) (by go_simp); have k1_b8_1 : w1.cell? ⟨w.heap.size + 1 + 1 + 1 + 1, 1, none⟩ = some (.int .u8 0) := bcs hb1 (by go_simp); have g1_b8_1 : w1.frozen? ⟨w.heap.size + 1 + 1 + 1 + 1, 1, none⟩ = false := bfs hb1 (v := .int .u8 0) (by go_simp) (by go_simp); have k1_b8_2 : w1.cell? ⟨w.heap.size + 1 + 1 + 1 + 1, 2, none⟩ = some (.int .u8 0) := bcs hb1 (by go_simp); have g1_b8_2 : w1.frozen? ⟨w.heap.size + 1 + 1 + 1 + 1, 2, none⟩ = false := bfs hb1 (v := .int .u8 0) (by go_simp) (by go_simp); have k1_b8_3 : w1.cell? ⟨w.heap.size + 1 + 1 + 1 + 1, 3, none⟩ = some (.int .u8 0) := bcs hb1 (by go_simp); have g1_b8_3 : w1.frozen? ⟨w.heap.size + 1 + 1 + 1 + 1, 3, none⟩ = false := bfs hb1 (v := .int .u8 0) (by go_simp) (by go_simp); have q1_b4 : w.heap.size < w1.heap.size := qlt k1_b4_0; have x1_b4 : ¬ w.heap.size = w1.heap.size := qne k1_b4_0; have y1_b4 : ¬ w1.heap.size = w.heap.size := fun h => qne k1_b4_0 h.symm; have q1_b5 : w.heap.size + 1 < w1.heap.size := qlt k1_b5_0; have x1_b5 : ¬ w.heap.size + 1 = w1.heap.size := qne k1_b5_0; have y1_b5 : ¬ w1.heap.size = w.heap.size + 1 := fun h => qne k1_b5_0 h.symm; have q1_b6 : w.heap.size + 1 + 1 < w1.heap.size := qlt k1_b6_0; have x1_b6 : ¬ w.heap.size + 1 + 1 = w1.heap.size := qne k1_b6_0; have y1_b6 : ¬ w1.heap.size = w.heap.size + 1 + 1 := fun h => qne k1_b6_0 h.symm; have q1_b7 : w.heap.size + 1 + 1 + 1 < w1.heap.size := qlt k1_b7_0; have x1_b7 : ¬ w.heap.size + 1 + 1 + 1 = w1.heap.size := qne k1_b7_0; have y1_b7 : ¬ w1.heap.size = w.heap.size + 1 + 1 + 1 := fun h => qne k1_b7_0 h.symm; have q1_b8 : w.heap.size + 1 + 1 + 1 + 1 < w1.heap.size := qlt k1_b8_0; have x1_b8 : ¬ w.heap.size + 1 + 1 + 1 + 1 = w1.heap.size := qne k1_b8_0; have y1_b8 : ¬ w1.heap.size = w.heap.size + 1 + 1 + 1 + 1 := fun h => qne k1_b8_0 h.symm; have B1 : Below w.heap.size w w1 := bel_step (by repeat (first | with_reducible exact Below.refl _ _ | fail | with_reducible apply below_drewN | with_reducible apply Below.drew | (with_reducible refine Below.alloc ?_ (by first | (simp; done) | (simp; omega) | omega) _) | (with_reducible refine Below.setCell ?_ (by first | (simp; done) | (simp; omega) | omega) _))) hb1; have z1 : w.heap.size + 1 + 1 + 1 + 1 + 1 ≤ w1.heap.size := Nat.le_trans (by first | with_reducible assumption | (simp; done) | (simp; omega)) hb1.size; clear hb1))
  refine bodyPost_ret (v := .agg #[.int .u8 l0, .int .u8 l1, .int .u8 l2, .int .u8 l3]) (by simp [results, Try.results20, go_sem, *]) rfl ⟨rfl, ?_⟩
  repeat (first | with_reducible exact Below.refl _ _ | with_reducible exact B1 | with_reducible apply below_drewN | with_reducible apply Below.drew | (with_reducible refine Below.alloc ?_ (by first | (simp; done) | (simp; omega) | omega) _) | (with_reducible refine Below.setCell ?_ (by first | (simp; done) | (simp; omega) | omega) _))
end Go.Proofs.Ytcklplodbdbciaa
