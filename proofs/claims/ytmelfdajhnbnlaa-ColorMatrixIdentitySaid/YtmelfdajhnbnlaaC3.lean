
import Derived.Test.YtmelfdajhnbnlaaC1
import Derived.WalkKit
import Derived.WalkSpells
import Derived.WalkLawsBesides
import Derived.Lib.Hide
import Derived.Below
import Derived.Deep.QuietTactic
import Derived.BigQuiet
import Derived.Deep.RegionHeld3
import Derived.Deep.DrawnRows
import Derived.Deep.DeepFit
import Derived.IntWalk
namespace Go.Proofs.Ytmelfdajhnbnlaa
open Go.RowKit
set_option linter.unusedVariables false
set_option linter.unusedSimpArgs false
attribute [local go_sem ↓] Go.wp_at_zero Go.wp_at_succ
attribute [local go_sem] rhoF_tmp rhoF_const rhoF_global rhoF_func

set_option maxHeartbeats 1000000 in
theorem prm_any (v k : Int) (p : Nat) (v0 : 0 ≤ v) (v1 : v ≤ 255) (k0 : 0 ≤ k) (k1 : k ≤ 255) (w : World) (hp : w.cell? ⟨p, 3, none⟩ = some (.int .u8 k)) :
    Calls Try.prog 15 #[.int .u8 v, .pointer (some ⟨p, 0, none⟩)] w fun e w' => e = .returned (.int .u8 (mn8 v k)) ∧ w = w' := by
  go_enter Try.func15, Try.ntmps15
  go_wp2_with (go_at_call 16; (with_reducible refine (mulNorm8_any v k v0 v1 k0 k1 _).mono ?_); rintro e w9 ⟨rfl, rfl⟩)
  go_ret
  exact ⟨rfl, rfl⟩

set_option maxHeartbeats 4000000 in
theorem mapPp_any (r g b a : Int) (p : Nat) (r0 : 0 ≤ r) (r1 : r ≤ 255) (g0 : 0 ≤ g) (g1 : g ≤ 255) (b0 : 0 ≤ b) (b1 : b ≤ 255) (a0 : 0 ≤ a) (a1 : a ≤ 255) (w : World) (hp0 : w.cell? ⟨p, 0, none⟩ = some (.int .u8 r)) (gp0 : w.frozen? ⟨p, 0, none⟩ = false) (hp1 : w.cell? ⟨p, 1, none⟩ = some (.int .u8 g)) (gp1 : w.frozen? ⟨p, 1, none⟩ = false) (hp2 : w.cell? ⟨p, 2, none⟩ = some (.int .u8 b)) (gp2 : w.frozen? ⟨p, 2, none⟩ = false) (hp3 : w.cell? ⟨p, 3, none⟩ = some (.int .u8 a)) (gp3 : w.frozen? ⟨p, 3, none⟩ = false) :
    Calls Try.prog 14 #[.agg #[.int .u8 r, .int .u8 g, .int .u8 b, .int .u8 a], .func (.func 15) #[] #[.pointer (some ⟨p, 0, none⟩)]] w fun e w' => e = .returned (.agg #[.int .u8 (mn8 r a), .int .u8 (mn8 g a), .int .u8 (mn8 b a), .int .u8 (mn8 a a)]) ∧ Below w.heap.size w w' := by
  have hpl := qlt hp0
  have cs0 := fun w hp => prm_any r a p r0 r1 a0 a1 w hp
  obtain ⟨l0, hl0⟩ : ∃ z, mn8 r a = z := ⟨_, rfl⟩
  rw [hl0] at cs0
  have cs1 := fun w hp => prm_any g a p g0 g1 a0 a1 w hp
  obtain ⟨l1, hl1⟩ : ∃ z, mn8 g a = z := ⟨_, rfl⟩
  rw [hl1] at cs1
  have cs2 := fun w hp => prm_any b a p b0 b1 a0 a1 w hp
  obtain ⟨l2, hl2⟩ : ∃ z, mn8 b a = z := ⟨_, rfl⟩
  rw [hl2] at cs2
  have cs3 := fun w hp => prm_any a a p a0 a1 a0 a1 w hp
  obtain ⟨l3, hl3⟩ : ∃ z, mn8 a a = z := ⟨_, rfl⟩
  rw [hl3] at cs3
  rw [hl0, hl1, hl2, hl3]
  clear hl0 hl1 hl2 hl3
  go_enter Try.func14, Try.ntmps14
  go_wp2
  refine wp_region_env (fun w' => w'.cell? ⟨w.heap.size, 0, none⟩ = some (.int .u8 r) ∧ w'.frozen? ⟨w.heap.size, 0, none⟩ = false ∧ w'.cell? ⟨w.heap.size, 1, none⟩ = some (.int .u8 g) ∧ w'.frozen? ⟨w.heap.size, 1, none⟩ = false ∧ w'.cell? ⟨w.heap.size, 2, none⟩ = some (.int .u8 b) ∧ w'.frozen? ⟨w.heap.size, 2, none⟩ = false ∧ w'.cell? ⟨w.heap.size, 3, none⟩ = some (.int .u8 a) ∧ w'.frozen? ⟨w.heap.size, 3, none⟩ = false ∧ w'.cell? ⟨w.heap.size + 1, 0, none⟩ = some (.int .u8 0) ∧ w'.frozen? ⟨w.heap.size + 1, 0, none⟩ = false ∧ w'.cell? ⟨w.heap.size + 1, 1, none⟩ = some (.int .u8 0) ∧ w'.frozen? ⟨w.heap.size + 1, 1, none⟩ = false ∧ w'.cell? ⟨w.heap.size + 1, 2, none⟩ = some (.int .u8 0) ∧ w'.frozen? ⟨w.heap.size + 1, 2, none⟩ = false ∧ w'.cell? ⟨w.heap.size + 1, 3, none⟩ = some (.int .u8 0) ∧ w'.frozen? ⟨w.heap.size + 1, 3, none⟩ = false ∧ w'.cell? ⟨p, 0, none⟩ = some (.int .u8 r) ∧ w'.frozen? ⟨p, 0, none⟩ = false ∧ w'.cell? ⟨p, 1, none⟩ = some (.int .u8 g) ∧ w'.frozen? ⟨p, 1, none⟩ = false ∧ w'.cell? ⟨p, 2, none⟩ = some (.int .u8 b) ∧ w'.frozen? ⟨p, 2, none⟩ = false ∧ w'.cell? ⟨p, 3, none⟩ = some (.int .u8 a) ∧ w'.frozen? ⟨p, 3, none⟩ = false) (fun W => W.cell? ⟨w.heap.size, 0, none⟩ = some (.int .u8 r) ∧ W.frozen? ⟨w.heap.size, 0, none⟩ = false ∧ W.cell? ⟨w.heap.size, 1, none⟩ = some (.int .u8 g) ∧ W.frozen? ⟨w.heap.size, 1, none⟩ = false ∧ W.cell? ⟨w.heap.size, 2, none⟩ = some (.int .u8 b) ∧ W.frozen? ⟨w.heap.size, 2, none⟩ = false ∧ W.cell? ⟨w.heap.size, 3, none⟩ = some (.int .u8 a) ∧ W.frozen? ⟨w.heap.size, 3, none⟩ = false ∧ W.cell? ⟨w.heap.size + 1, 0, none⟩ = some (.int .u8 0) ∧ W.frozen? ⟨w.heap.size + 1, 0, none⟩ = false ∧ W.cell? ⟨w.heap.size + 1, 1, none⟩ = some (.int .u8 0) ∧ W.frozen? ⟨w.heap.size + 1, 1, none⟩ = false ∧ W.cell? ⟨w.heap.size + 1, 2, none⟩ = some (.int .u8 0) ∧ W.frozen? ⟨w.heap.size + 1, 2, none⟩ = false ∧ W.cell? ⟨w.heap.size + 1, 3, none⟩ = some (.int .u8 0) ∧ W.frozen? ⟨w.heap.size + 1, 3, none⟩ = false ∧ W.cell? ⟨p, 0, none⟩ = some (.int .u8 r) ∧ W.frozen? ⟨p, 0, none⟩ = false ∧ W.cell? ⟨p, 1, none⟩ = some (.int .u8 g) ∧ W.frozen? ⟨p, 1, none⟩ = false ∧ W.cell? ⟨p, 2, none⟩ = some (.int .u8 b) ∧ W.frozen? ⟨p, 2, none⟩ = false ∧ W.cell? ⟨p, 3, none⟩ = some (.int .u8 a) ∧ W.frozen? ⟨p, 3, none⟩ = false ∧ Below w.heap.size w W ∧ w.heap.size + 1 + 1 ≤ W.heap.size) 17 22 [.val (.func (.func 15) #[] #[.pointer (some ⟨p, 0, none⟩)]), .val (.pointer (some ⟨w.heap.size, 0, none⟩)), .val (.int .u8 r), .call 15 #[.int .u8 r, .pointer (some ⟨p, 0, none⟩)] (.int .u8 l0), .val (.func (.func 15) #[] #[.pointer (some ⟨p, 0, none⟩)]), .val (.pointer (some ⟨w.heap.size, 1, none⟩)), .val (.int .u8 g), .call 15 #[.int .u8 g, .pointer (some ⟨p, 0, none⟩)] (.int .u8 l1), .val (.func (.func 15) #[] #[.pointer (some ⟨p, 0, none⟩)]), .val (.pointer (some ⟨w.heap.size, 2, none⟩)), .val (.int .u8 b), .call 15 #[.int .u8 b, .pointer (some ⟨p, 0, none⟩)] (.int .u8 l2), .val (.func (.func 15) #[] #[.pointer (some ⟨p, 0, none⟩)]), .val (.pointer (some ⟨w.heap.size, 3, none⟩)), .val (.int .u8 a), .call 15 #[.int .u8 a, .pointer (some ⟨p, 0, none⟩)] (.int .u8 l3), .val (.agg #[.int .u8 l0, .int .u8 l1, .int .u8 l2, .int .u8 l3])] (by kernel_rfl) (by kernel_rfl) rfl (by kernel_rfl) (by rintro w1 w2 ⟨h0, h1, h2, h3, h4, h5, h6, h7, h8, h9, h10, h11, h12, h13, h14, h15, h16, h17, h18, h19, h20, h21, h22, h23⟩ hb; exact ⟨bcs hb h0, bfs hb h0 h1, bcs hb h2, bfs hb h2 h3, bcs hb h4, bfs hb h4 h5, bcs hb h6, bfs hb h6 h7, bcs hb h8, bfs hb h8 h9, bcs hb h10, bfs hb h10 h11, bcs hb h12, bfs hb h12 h13, bcs hb h14, bfs hb h14 h15, bcs hb h16, bfs hb h16 h17, bcs hb h18, bfs hb h18 h19, bcs hb h20, bfs hb h20 h21, bcs hb h22, bfs hb h22 h23⟩) ⟨by first | with_reducible assumption | go_simp, by first | with_reducible assumption | go_simp, by first | with_reducible assumption | go_simp, by first | with_reducible assumption | go_simp, by first | with_reducible assumption | go_simp, by first | with_reducible assumption | go_simp, by first | with_reducible assumption | go_simp, by first | with_reducible assumption | go_simp, by first | with_reducible assumption | go_simp, by first | with_reducible assumption | go_simp, by first | with_reducible assumption | go_simp, by first | with_reducible assumption | go_simp, by first | with_reducible assumption | go_simp, by first | with_reducible assumption | go_simp, by first | with_reducible assumption | go_simp, by first | with_reducible assumption | go_simp, bcs (by repeat (first | with_reducible exact Below.refl _ _ | fail | with_reducible apply below_drewN | with_reducible apply Below.drew | (with_reducible refine Below.alloc ?_ (by first | (simp; done) | (simp; omega) | omega) _) | (with_reducible refine Below.setCell ?_ (by first | (simp; done) | (simp; omega) | omega) _))) hp0, bfs (by repeat (first | with_reducible exact Below.refl _ _ | fail | with_reducible apply below_drewN | with_reducible apply Below.drew | (with_reducible refine Below.alloc ?_ (by first | (simp; done) | (simp; omega) | omega) _) | (with_reducible refine Below.setCell ?_ (by first | (simp; done) | (simp; omega) | omega) _))) hp0 gp0, bcs (by repeat (first | with_reducible exact Below.refl _ _ | fail | with_reducible apply below_drewN | with_reducible apply Below.drew | (with_reducible refine Below.alloc ?_ (by first | (simp; done) | (simp; omega) | omega) _) | (with_reducible refine Below.setCell ?_ (by first | (simp; done) | (simp; omega) | omega) _))) hp1, bfs (by repeat (first | with_reducible exact Below.refl _ _ | fail | with_reducible apply below_drewN | with_reducible apply Below.drew | (with_reducible refine Below.alloc ?_ (by first | (simp; done) | (simp; omega) | omega) _) | (with_reducible refine Below.setCell ?_ (by first | (simp; done) | (simp; omega) | omega) _))) hp1 gp1, bcs (by repeat (first | with_reducible exact Below.refl _ _ | fail | with_reducible apply below_drewN | with_reducible apply Below.drew | (with_reducible refine Below.alloc ?_ (by first | (simp; done) | (simp; omega) | omega) _) | (with_reducible refine Below.setCell ?_ (by first | (simp; done) | (simp; omega) | omega) _))) hp2, bfs (by repeat (first | with_reducible exact Below.refl _ _ | fail | with_reducible apply below_drewN | with_reducible apply Below.drew | (with_reducible refine Below.alloc ?_ (by first | (simp; done) | (simp; omega) | omega) _) | (with_reducible refine Below.setCell ?_ (by first | (simp; done) | (simp; omega) | omega) _))) hp2 gp2, bcs (by repeat (first | with_reducible exact Below.refl _ _ | fail | with_reducible apply below_drewN | with_reducible apply Below.drew | (with_reducible refine Below.alloc ?_ (by first | (simp; done) | (simp; omega) | omega) _) | (with_reducible refine Below.setCell ?_ (by first | (simp; done) | (simp; omega) | omega) _))) hp3, bfs (by repeat (first | with_reducible exact Below.refl _ _ | fail | with_reducible apply below_drewN | with_reducible apply Below.drew | (with_reducible refine Below.alloc ?_ (by first | (simp; done) | (simp; omega) | omega) _) | (with_reducible refine Below.setCell ?_ (by first | (simp; done) | (simp; omega) | omega) _))) hp3 gp3, by repeat (first | with_reducible exact Below.refl _ _ | fail | with_reducible apply below_drewN | with_reducible apply Below.drew | (with_reducible refine Below.alloc ?_ (by first | (simp; done) | (simp; omega) | omega) _) | (with_reducible refine Below.setCell ?_ (by first | (simp; done) | (simp; omega) | omega) _)), by first | with_reducible assumption | (simp; done) | (simp; omega)⟩ ?_ ?_
  · rintro W ⟨k1_b2_0, g1_b2_0, k1_b2_1, g1_b2_1, k1_b2_2, g1_b2_2, k1_b2_3, g1_b2_3, k1_b4_0, g1_b4_0, k1_b4_1, g1_b4_1, k1_b4_2, g1_b4_2, k1_b4_3, g1_b4_3, k1_cp_0, g1_cp_0, k1_cp_1, g1_cp_1, k1_cp_2, g1_cp_2, k1_cp_3, g1_cp_3, B1, z1⟩; exact ⟨k1_b2_0, g1_b2_0, k1_b2_1, g1_b2_1, k1_b2_2, g1_b2_2, k1_b2_3, g1_b2_3, k1_b4_0, g1_b4_0, k1_b4_1, g1_b4_1, k1_b4_2, g1_b4_2, k1_b4_3, g1_b4_3, k1_cp_0, g1_cp_0, k1_cp_1, g1_cp_1, k1_cp_2, g1_cp_2, k1_cp_3, g1_cp_3⟩
  rintro w1 ⟨k1_b2_0, g1_b2_0, k1_b2_1, g1_b2_1, k1_b2_2, g1_b2_2, k1_b2_3, g1_b2_3, k1_b4_0, g1_b4_0, k1_b4_1, g1_b4_1, k1_b4_2, g1_b4_2, k1_b4_3, g1_b4_3, k1_cp_0, g1_cp_0, k1_cp_1, g1_cp_1, k1_cp_2, g1_cp_2, k1_cp_3, g1_cp_3, B1, z1⟩ gg
  simp only [List.take_succ_cons, List.take_zero, List.drop_succ_cons, List.drop_zero, List.cons_append, List.nil_append, List.append_nil]
  refine obe_val (by rfl) ?_ ?_
  · clear k1_b2_0 g1_b2_0 k1_b2_1 g1_b2_1 k1_b2_2 g1_b2_2 k1_b2_3 g1_b2_3 k1_b4_0 g1_b4_0 k1_b4_1 g1_b4_1 k1_b4_2 g1_b4_2 k1_b4_3 g1_b4_3 k1_cp_0 g1_cp_0 k1_cp_1 g1_cp_1 k1_cp_2 g1_cp_2 k1_cp_3 g1_cp_3 B1 z1; intro f hf; have u1 : f 1 = (.func (.func 15) #[] #[.pointer (some ⟨p, 0, none⟩)]) := (by rw [← hf]; rfl); clear hf; rintro w' ⟨h0, h1, h2, h3, h4, h5, h6, h7, h8, h9, h10, h11, h12, h13, h14, h15, h16, h17, h18, h19, h20, h21, h22, h23⟩; go_simp; try exact IntWalk.i64_in _ (by omega)
  refine obe_val (by rfl) ?_ ?_
  · clear k1_b2_0 g1_b2_0 k1_b2_1 g1_b2_1 k1_b2_2 g1_b2_2 k1_b2_3 g1_b2_3 k1_b4_0 g1_b4_0 k1_b4_1 g1_b4_1 k1_b4_2 g1_b4_2 k1_b4_3 g1_b4_3 k1_cp_0 g1_cp_0 k1_cp_1 g1_cp_1 k1_cp_2 g1_cp_2 k1_cp_3 g1_cp_3 B1 z1; intro f hf; have u2 : f 2 = (.pointer (some ⟨w.heap.size, 0, none⟩)) := (by rw [← hf]; rfl); clear hf; rintro w' ⟨h0, h1, h2, h3, h4, h5, h6, h7, h8, h9, h10, h11, h12, h13, h14, h15, h16, h17, h18, h19, h20, h21, h22, h23⟩; go_simp; try exact IntWalk.i64_in _ (by omega)
  refine obe_val (by rfl) ?_ ?_
  · clear k1_b2_0 g1_b2_0 k1_b2_1 g1_b2_1 k1_b2_2 g1_b2_2 k1_b2_3 g1_b2_3 k1_b4_0 g1_b4_0 k1_b4_1 g1_b4_1 k1_b4_2 g1_b4_2 k1_b4_3 g1_b4_3 k1_cp_0 g1_cp_0 k1_cp_1 g1_cp_1 k1_cp_2 g1_cp_2 k1_cp_3 g1_cp_3 B1 z1; intro f hf; have u6 : f 6 = (.pointer (some ⟨w.heap.size, 0, none⟩)) := (by rw [← hf]; rfl); clear hf; rintro w' ⟨h0, h1, h2, h3, h4, h5, h6, h7, h8, h9, h10, h11, h12, h13, h14, h15, h16, h17, h18, h19, h20, h21, h22, h23⟩; go_simp; try exact IntWalk.i64_in _ (by omega)
  refine obe_call (by rfl) ?_ ?_ ?_
  · clear k1_b2_0 g1_b2_0 k1_b2_1 g1_b2_1 k1_b2_2 g1_b2_2 k1_b2_3 g1_b2_3 k1_b4_0 g1_b4_0 k1_b4_1 g1_b4_1 k1_b4_2 g1_b4_2 k1_b4_3 g1_b4_3 k1_cp_0 g1_cp_0 k1_cp_1 g1_cp_1 k1_cp_2 g1_cp_2 k1_cp_3 g1_cp_3 B1 z1; intro f hf; have u5 : f 5 = (.func (.func 15) #[] #[.pointer (some ⟨p, 0, none⟩)]) := (by rw [← hf]; rfl); have u7 : f 7 = (.int .u8 r) := (by rw [← hf]; rfl); clear hf; intro w' _; simp only [execOp, resolve, invoke, rhoF_tmp, rhoF_func, rhoF_const, u5, u7, List.map_toArray, List.map_cons, List.map_nil]; go_simp
  · clear k1_b2_0 g1_b2_0 k1_b2_1 g1_b2_1 k1_b2_2 g1_b2_2 k1_b2_3 g1_b2_3 k1_b4_0 g1_b4_0 k1_b4_1 g1_b4_1 k1_b4_2 g1_b4_2 k1_b4_3 g1_b4_3 k1_cp_0 g1_cp_0 k1_cp_1 g1_cp_1 k1_cp_2 g1_cp_2 k1_cp_3 g1_cp_3 B1 z1; rintro w' ⟨h0, h1, h2, h3, h4, h5, h6, h7, h8, h9, h10, h11, h12, h13, h14, h15, h16, h17, h18, h19, h20, h21, h22, h23⟩; exact (cs0 _ h22).mono (by rintro e w2 ⟨rfl, rfl⟩; exact ⟨rfl, Below.refl _ _⟩)
  refine obe_val (by rfl) ?_ ?_
  · clear k1_b2_0 g1_b2_0 k1_b2_1 g1_b2_1 k1_b2_2 g1_b2_2 k1_b2_3 g1_b2_3 k1_b4_0 g1_b4_0 k1_b4_1 g1_b4_1 k1_b4_2 g1_b4_2 k1_b4_3 g1_b4_3 k1_cp_0 g1_cp_0 k1_cp_1 g1_cp_1 k1_cp_2 g1_cp_2 k1_cp_3 g1_cp_3 B1 z1; intro f hf; have u1 : f 1 = (.func (.func 15) #[] #[.pointer (some ⟨p, 0, none⟩)]) := (by rw [← hf]; rfl); clear hf; rintro w' ⟨h0, h1, h2, h3, h4, h5, h6, h7, h8, h9, h10, h11, h12, h13, h14, h15, h16, h17, h18, h19, h20, h21, h22, h23⟩; go_simp; try exact IntWalk.i64_in _ (by omega)
  refine obe_val (by rfl) ?_ ?_
  · clear k1_b2_0 g1_b2_0 k1_b2_1 g1_b2_1 k1_b2_2 g1_b2_2 k1_b2_3 g1_b2_3 k1_b4_0 g1_b4_0 k1_b4_1 g1_b4_1 k1_b4_2 g1_b4_2 k1_b4_3 g1_b4_3 k1_cp_0 g1_cp_0 k1_cp_1 g1_cp_1 k1_cp_2 g1_cp_2 k1_cp_3 g1_cp_3 B1 z1; intro f hf; have u2 : f 2 = (.pointer (some ⟨w.heap.size, 0, none⟩)) := (by rw [← hf]; rfl); clear hf; rintro w' ⟨h0, h1, h2, h3, h4, h5, h6, h7, h8, h9, h10, h11, h12, h13, h14, h15, h16, h17, h18, h19, h20, h21, h22, h23⟩; go_simp; try exact IntWalk.i64_in _ (by omega)
  refine obe_val (by rfl) ?_ ?_
  · clear k1_b2_0 g1_b2_0 k1_b2_1 g1_b2_1 k1_b2_2 g1_b2_2 k1_b2_3 g1_b2_3 k1_b4_0 g1_b4_0 k1_b4_1 g1_b4_1 k1_b4_2 g1_b4_2 k1_b4_3 g1_b4_3 k1_cp_0 g1_cp_0 k1_cp_1 g1_cp_1 k1_cp_2 g1_cp_2 k1_cp_3 g1_cp_3 B1 z1; intro f hf; have u10 : f 10 = (.pointer (some ⟨w.heap.size, 1, none⟩)) := (by rw [← hf]; rfl); clear hf; rintro w' ⟨h0, h1, h2, h3, h4, h5, h6, h7, h8, h9, h10, h11, h12, h13, h14, h15, h16, h17, h18, h19, h20, h21, h22, h23⟩; go_simp; try exact IntWalk.i64_in _ (by omega)
  refine obe_call (by rfl) ?_ ?_ ?_
  · clear k1_b2_0 g1_b2_0 k1_b2_1 g1_b2_1 k1_b2_2 g1_b2_2 k1_b2_3 g1_b2_3 k1_b4_0 g1_b4_0 k1_b4_1 g1_b4_1 k1_b4_2 g1_b4_2 k1_b4_3 g1_b4_3 k1_cp_0 g1_cp_0 k1_cp_1 g1_cp_1 k1_cp_2 g1_cp_2 k1_cp_3 g1_cp_3 B1 z1; intro f hf; have u9 : f 9 = (.func (.func 15) #[] #[.pointer (some ⟨p, 0, none⟩)]) := (by rw [← hf]; rfl); have u11 : f 11 = (.int .u8 g) := (by rw [← hf]; rfl); clear hf; intro w' _; simp only [execOp, resolve, invoke, rhoF_tmp, rhoF_func, rhoF_const, u9, u11, List.map_toArray, List.map_cons, List.map_nil]; go_simp
  · clear k1_b2_0 g1_b2_0 k1_b2_1 g1_b2_1 k1_b2_2 g1_b2_2 k1_b2_3 g1_b2_3 k1_b4_0 g1_b4_0 k1_b4_1 g1_b4_1 k1_b4_2 g1_b4_2 k1_b4_3 g1_b4_3 k1_cp_0 g1_cp_0 k1_cp_1 g1_cp_1 k1_cp_2 g1_cp_2 k1_cp_3 g1_cp_3 B1 z1; rintro w' ⟨h0, h1, h2, h3, h4, h5, h6, h7, h8, h9, h10, h11, h12, h13, h14, h15, h16, h17, h18, h19, h20, h21, h22, h23⟩; exact (cs1 _ h22).mono (by rintro e w2 ⟨rfl, rfl⟩; exact ⟨rfl, Below.refl _ _⟩)
  refine obe_val (by rfl) ?_ ?_
  · clear k1_b2_0 g1_b2_0 k1_b2_1 g1_b2_1 k1_b2_2 g1_b2_2 k1_b2_3 g1_b2_3 k1_b4_0 g1_b4_0 k1_b4_1 g1_b4_1 k1_b4_2 g1_b4_2 k1_b4_3 g1_b4_3 k1_cp_0 g1_cp_0 k1_cp_1 g1_cp_1 k1_cp_2 g1_cp_2 k1_cp_3 g1_cp_3 B1 z1; intro f hf; have u1 : f 1 = (.func (.func 15) #[] #[.pointer (some ⟨p, 0, none⟩)]) := (by rw [← hf]; rfl); clear hf; rintro w' ⟨h0, h1, h2, h3, h4, h5, h6, h7, h8, h9, h10, h11, h12, h13, h14, h15, h16, h17, h18, h19, h20, h21, h22, h23⟩; go_simp; try exact IntWalk.i64_in _ (by omega)
  refine obe_val (by rfl) ?_ ?_
  · clear k1_b2_0 g1_b2_0 k1_b2_1 g1_b2_1 k1_b2_2 g1_b2_2 k1_b2_3 g1_b2_3 k1_b4_0 g1_b4_0 k1_b4_1 g1_b4_1 k1_b4_2 g1_b4_2 k1_b4_3 g1_b4_3 k1_cp_0 g1_cp_0 k1_cp_1 g1_cp_1 k1_cp_2 g1_cp_2 k1_cp_3 g1_cp_3 B1 z1; intro f hf; have u2 : f 2 = (.pointer (some ⟨w.heap.size, 0, none⟩)) := (by rw [← hf]; rfl); clear hf; rintro w' ⟨h0, h1, h2, h3, h4, h5, h6, h7, h8, h9, h10, h11, h12, h13, h14, h15, h16, h17, h18, h19, h20, h21, h22, h23⟩; go_simp; try exact IntWalk.i64_in _ (by omega)
  refine obe_val (by rfl) ?_ ?_
  · clear k1_b2_0 g1_b2_0 k1_b2_1 g1_b2_1 k1_b2_2 g1_b2_2 k1_b2_3 g1_b2_3 k1_b4_0 g1_b4_0 k1_b4_1 g1_b4_1 k1_b4_2 g1_b4_2 k1_b4_3 g1_b4_3 k1_cp_0 g1_cp_0 k1_cp_1 g1_cp_1 k1_cp_2 g1_cp_2 k1_cp_3 g1_cp_3 B1 z1; intro f hf; have u14 : f 14 = (.pointer (some ⟨w.heap.size, 2, none⟩)) := (by rw [← hf]; rfl); clear hf; rintro w' ⟨h0, h1, h2, h3, h4, h5, h6, h7, h8, h9, h10, h11, h12, h13, h14, h15, h16, h17, h18, h19, h20, h21, h22, h23⟩; go_simp; try exact IntWalk.i64_in _ (by omega)
  refine obe_call (by rfl) ?_ ?_ ?_
  · clear k1_b2_0 g1_b2_0 k1_b2_1 g1_b2_1 k1_b2_2 g1_b2_2 k1_b2_3 g1_b2_3 k1_b4_0 g1_b4_0 k1_b4_1 g1_b4_1 k1_b4_2 g1_b4_2 k1_b4_3 g1_b4_3 k1_cp_0 g1_cp_0 k1_cp_1 g1_cp_1 k1_cp_2 g1_cp_2 k1_cp_3 g1_cp_3 B1 z1; intro f hf; have u13 : f 13 = (.func (.func 15) #[] #[.pointer (some ⟨p, 0, none⟩)]) := (by rw [← hf]; rfl); have u15 : f 15 = (.int .u8 b) := (by rw [← hf]; rfl); clear hf; intro w' _; simp only [execOp, resolve, invoke, rhoF_tmp, rhoF_func, rhoF_const, u13, u15, List.map_toArray, List.map_cons, List.map_nil]; go_simp
  · clear k1_b2_0 g1_b2_0 k1_b2_1 g1_b2_1 k1_b2_2 g1_b2_2 k1_b2_3 g1_b2_3 k1_b4_0 g1_b4_0 k1_b4_1 g1_b4_1 k1_b4_2 g1_b4_2 k1_b4_3 g1_b4_3 k1_cp_0 g1_cp_0 k1_cp_1 g1_cp_1 k1_cp_2 g1_cp_2 k1_cp_3 g1_cp_3 B1 z1; rintro w' ⟨h0, h1, h2, h3, h4, h5, h6, h7, h8, h9, h10, h11, h12, h13, h14, h15, h16, h17, h18, h19, h20, h21, h22, h23⟩; exact (cs2 _ h22).mono (by rintro e w2 ⟨rfl, rfl⟩; exact ⟨rfl, Below.refl _ _⟩)
  refine obe_val (by rfl) ?_ ?_
  · clear k1_b2_0 g1_b2_0 k1_b2_1 g1_b2_1 k1_b2_2 g1_b2_2 k1_b2_3 g1_b2_3 k1_b4_0 g1_b4_0 k1_b4_1 g1_b4_1 k1_b4_2 g1_b4_2 k1_b4_3 g1_b4_3 k1_cp_0 g1_cp_0 k1_cp_1 g1_cp_1 k1_cp_2 g1_cp_2 k1_cp_3 g1_cp_3 B1 z1; intro f hf; have u1 : f 1 = (.func (.func 15) #[] #[.pointer (some ⟨p, 0, none⟩)]) := (by rw [← hf]; rfl); clear hf; rintro w' ⟨h0, h1, h2, h3, h4, h5, h6, h7, h8, h9, h10, h11, h12, h13, h14, h15, h16, h17, h18, h19, h20, h21, h22, h23⟩; go_simp; try exact IntWalk.i64_in _ (by omega)
  refine obe_val (by rfl) ?_ ?_
  · clear k1_b2_0 g1_b2_0 k1_b2_1 g1_b2_1 k1_b2_2 g1_b2_2 k1_b2_3 g1_b2_3 k1_b4_0 g1_b4_0 k1_b4_1 g1_b4_1 k1_b4_2 g1_b4_2 k1_b4_3 g1_b4_3 k1_cp_0 g1_cp_0 k1_cp_1 g1_cp_1 k1_cp_2 g1_cp_2 k1_cp_3 g1_cp_3 B1 z1; intro f hf; have u2 : f 2 = (.pointer (some ⟨w.heap.size, 0, none⟩)) := (by rw [← hf]; rfl); clear hf; rintro w' ⟨h0, h1, h2, h3, h4, h5, h6, h7, h8, h9, h10, h11, h12, h13, h14, h15, h16, h17, h18, h19, h20, h21, h22, h23⟩; go_simp; try exact IntWalk.i64_in _ (by omega)
  refine obe_val (by rfl) ?_ ?_
  · clear k1_b2_0 g1_b2_0 k1_b2_1 g1_b2_1 k1_b2_2 g1_b2_2 k1_b2_3 g1_b2_3 k1_b4_0 g1_b4_0 k1_b4_1 g1_b4_1 k1_b4_2 g1_b4_2 k1_b4_3 g1_b4_3 k1_cp_0 g1_cp_0 k1_cp_1 g1_cp_1 k1_cp_2 g1_cp_2 k1_cp_3 g1_cp_3 B1 z1; intro f hf; have u18 : f 18 = (.pointer (some ⟨w.heap.size, 3, none⟩)) := (by rw [← hf]; rfl); clear hf; rintro w' ⟨h0, h1, h2, h3, h4, h5, h6, h7, h8, h9, h10, h11, h12, h13, h14, h15, h16, h17, h18, h19, h20, h21, h22, h23⟩; go_simp; try exact IntWalk.i64_in _ (by omega)
  refine obe_call (by rfl) ?_ ?_ ?_
  · clear k1_b2_0 g1_b2_0 k1_b2_1 g1_b2_1 k1_b2_2 g1_b2_2 k1_b2_3 g1_b2_3 k1_b4_0 g1_b4_0 k1_b4_1 g1_b4_1 k1_b4_2 g1_b4_2 k1_b4_3 g1_b4_3 k1_cp_0 g1_cp_0 k1_cp_1 g1_cp_1 k1_cp_2 g1_cp_2 k1_cp_3 g1_cp_3 B1 z1; intro f hf; have u17 : f 17 = (.func (.func 15) #[] #[.pointer (some ⟨p, 0, none⟩)]) := (by rw [← hf]; rfl); have u19 : f 19 = (.int .u8 a) := (by rw [← hf]; rfl); clear hf; intro w' _; simp only [execOp, resolve, invoke, rhoF_tmp, rhoF_func, rhoF_const, u17, u19, List.map_toArray, List.map_cons, List.map_nil]; go_simp
  · clear k1_b2_0 g1_b2_0 k1_b2_1 g1_b2_1 k1_b2_2 g1_b2_2 k1_b2_3 g1_b2_3 k1_b4_0 g1_b4_0 k1_b4_1 g1_b4_1 k1_b4_2 g1_b4_2 k1_b4_3 g1_b4_3 k1_cp_0 g1_cp_0 k1_cp_1 g1_cp_1 k1_cp_2 g1_cp_2 k1_cp_3 g1_cp_3 B1 z1; rintro w' ⟨h0, h1, h2, h3, h4, h5, h6, h7, h8, h9, h10, h11, h12, h13, h14, h15, h16, h17, h18, h19, h20, h21, h22, h23⟩; exact (cs3 _ h22).mono (by rintro e w2 ⟨rfl, rfl⟩; exact ⟨rfl, Below.refl _ _⟩)
  refine obe_val (by rfl) ?_ ?_
  · clear k1_b2_0 g1_b2_0 k1_b2_1 g1_b2_1 k1_b2_2 g1_b2_2 k1_b2_3 g1_b2_3 k1_b4_0 g1_b4_0 k1_b4_1 g1_b4_1 k1_b4_2 g1_b4_2 k1_b4_3 g1_b4_3 k1_cp_0 g1_cp_0 k1_cp_1 g1_cp_1 k1_cp_2 g1_cp_2 k1_cp_3 g1_cp_3 B1 z1; intro f hf; have u8 : f 8 = (.int .u8 l0) := (by rw [← hf]; rfl); have u12 : f 12 = (.int .u8 l1) := (by rw [← hf]; rfl); have u16 : f 16 = (.int .u8 l2) := (by rw [← hf]; rfl); have u20 : f 20 = (.int .u8 l3) := (by rw [← hf]; rfl); clear hf; rintro w' ⟨h0, h1, h2, h3, h4, h5, h6, h7, h8, h9, h10, h11, h12, h13, h14, h15, h16, h17, h18, h19, h20, h21, h22, h23⟩; go_simp; try exact IntWalk.i64_in _ (by omega)
  refine obe_nil ?_
  rintro w2 ⟨h0, h1, h2, h3, h4, h5, h6, h7, h8, h9, h10, h11, h12, h13, h14, h15, h16, h17, h18, h19, h20, h21, h22, h23⟩ hb2 hF
  (try simp only [List.nil_append, List.append_nil, List.cons_append] at hF)
  simp only [puts, putD, Act.put, List.setIfInBounds_toArray, List.set_cons_zero, List.set_cons_succ]
  clear hF
  have k2_b2_0 := bcs hb2 k1_b2_0
  have g2_b2_0 := bfs hb2 k1_b2_0 g1_b2_0
  have k2_b2_1 := bcs hb2 k1_b2_1
  have g2_b2_1 := bfs hb2 k1_b2_1 g1_b2_1
  have k2_b2_2 := bcs hb2 k1_b2_2
  have g2_b2_2 := bfs hb2 k1_b2_2 g1_b2_2
  have k2_b2_3 := bcs hb2 k1_b2_3
  have g2_b2_3 := bfs hb2 k1_b2_3 g1_b2_3
  have k2_b4_0 := bcs hb2 k1_b4_0
  have g2_b4_0 := bfs hb2 k1_b4_0 g1_b4_0
  have k2_b4_1 := bcs hb2 k1_b4_1
  have g2_b4_1 := bfs hb2 k1_b4_1 g1_b4_1
  have k2_b4_2 := bcs hb2 k1_b4_2
  have g2_b4_2 := bfs hb2 k1_b4_2 g1_b4_2
  have k2_b4_3 := bcs hb2 k1_b4_3
  have g2_b4_3 := bfs hb2 k1_b4_3 g1_b4_3
  have k2_cp_0 := bcs hb2 k1_cp_0
  have g2_cp_0 := bfs hb2 k1_cp_0 g1_cp_0
  have k2_cp_1 := bcs hb2 k1_cp_1
  have g2_cp_1 := bfs hb2 k1_cp_1 g1_cp_1
  have k2_cp_2 := bcs hb2 k1_cp_2
  have g2_cp_2 := bfs hb2 k1_cp_2 g1_cp_2
  have k2_cp_3 := bcs hb2 k1_cp_3
  have g2_cp_3 := bfs hb2 k1_cp_3 g1_cp_3
  clear h0 h1 h2 h3 h4 h5 h6 h7 h8 h9 h10 h11 h12 h13 h14 h15 h16 h17 h18 h19 h20 h21 h22 h23
  have B2 := bel_step B1 hb2
  have z2 := Nat.le_trans z1 hb2.size
  clear hb2
  (try clear B1)
  (try clear z1)
  (try clear k1_b2_0)
  (try clear g1_b2_0)
  (try clear k1_b2_1)
  (try clear g1_b2_1)
  (try clear k1_b2_2)
  (try clear g1_b2_2)
  (try clear k1_b2_3)
  (try clear g1_b2_3)
  (try clear k1_b4_0)
  (try clear g1_b4_0)
  (try clear k1_b4_1)
  (try clear g1_b4_1)
  (try clear k1_b4_2)
  (try clear g1_b4_2)
  (try clear k1_b4_3)
  (try clear g1_b4_3)
  (try clear k1_cp_0)
  (try clear g1_cp_0)
  (try clear k1_cp_1)
  (try clear g1_cp_1)
  (try clear k1_cp_2)
  (try clear g1_cp_2)
  (try clear k1_cp_3)
  (try clear g1_cp_3)
  (try clear q1_b2)
  (try clear x1_b2)
  (try clear y1_b2)
  (try clear q1_b4)
  (try clear x1_b4)
  (try clear y1_b4)
  (try clear q1_cp)
  (try clear x1_cp)
  (try clear y1_cp)
  have q2_b2 : w.heap.size < w2.heap.size := qlt k2_b2_0
  have x2_b2 : ¬ w.heap.size = w2.heap.size := qne k2_b2_0
  have y2_b2 : ¬ w2.heap.size = w.heap.size := fun h => qne k2_b2_0 h.symm
  have q2_b4 : w.heap.size + 1 < w2.heap.size := qlt k2_b4_0
  have x2_b4 : ¬ w.heap.size + 1 = w2.heap.size := qne k2_b4_0
  have y2_b4 : ¬ w2.heap.size = w.heap.size + 1 := fun h => qne k2_b4_0 h.symm
  have q2_cp : p < w2.heap.size := qlt k2_cp_0
  have x2_cp : ¬ p = w2.heap.size := qne k2_cp_0
  have y2_cp : ¬ w2.heap.size = p := fun h => qne k2_cp_0 h.symm
  go_wp2
  refine bodyPost_ret (v := .agg #[.int .u8 l0, .int .u8 l1, .int .u8 l2, .int .u8 l3]) (by simp [results, Try.results14, go_sem, *]) rfl ⟨rfl, ?_⟩
  repeat (first | with_reducible exact Below.refl _ _ | with_reducible exact B2 | with_reducible apply below_drewN | with_reducible apply Below.drew | (with_reducible refine Below.alloc ?_ (by first | (simp; done) | (simp; omega) | omega) _) | (with_reducible refine Below.setCell ?_ (by first | (simp; done) | (simp; omega) | omega) _))

set_option maxHeartbeats 4000000 in
theorem premul_any (r g b a : Int) (r0 : 0 ≤ r) (r1 : r ≤ 255) (g0 : 0 ≤ g) (g1 : g ≤ 255) (b0 : 0 ≤ b) (b1 : b ≤ 255) (a0 : 0 ≤ a) (a1 : a ≤ 255) (w : World) :
    Calls Try.prog 9 #[.agg #[.int .u8 r, .int .u8 g, .int .u8 b, .int .u8 a]] w fun e w' => e = .returned (.agg #[.int .u8 (mn8 r a), .int .u8 (mn8 g a), .int .u8 (mn8 b a), .int .u8 a]) ∧ Below w.heap.size w w' := by
  have hmf : ∀ (fn : Fn) (first cap : Array Value) (w : World), (Instr.makeFunc fn first cap).run Try.prog w = .ok (.func fn first cap) w := fun _ _ _ _ => rfl
  have cc := fun w p => mapPp_any r g b a p r0 r1 g0 g1 b0 b1 a0 a1 w
  obtain ⟨l0, hl0⟩ : ∃ z, mn8 r a = z := ⟨_, rfl⟩
  obtain ⟨l1, hl1⟩ : ∃ z, mn8 g a = z := ⟨_, rfl⟩
  obtain ⟨l2, hl2⟩ : ∃ z, mn8 b a = z := ⟨_, rfl⟩
  obtain ⟨l3, hl3⟩ : ∃ z, mn8 a a = z := ⟨_, rfl⟩
  rw [hl0, hl1, hl2, hl3] at cc
  rw [hl0, hl1, hl2]
  clear hl0 hl1 hl2 hl3
  go_enter Try.func9, Try.ntmps9
  go_wp2_with (first | (go_at_call 14; (with_reducible refine (cc _ _ (by go_simp) (by go_simp) (by go_simp) (by go_simp) (by go_simp) (by go_simp) (by go_simp) (by go_simp)).mono ?_); rintro e w1 ⟨rfl, hb1⟩; have k1_b1_0 : w1.cell? ⟨w.heap.size, 0, none⟩ = some (.int .u8 r) := bcs hb1 (by go_simp); have g1_b1_0 : w1.frozen? ⟨w.heap.size, 0, none⟩ = false := bfs hb1 (v := .int .u8 r) (by go_simp) (by go_simp); have k1_b1_1 : w1.cell? ⟨w.heap.size, 1, none⟩ = some (.int .u8 g) := bcs hb1 (by go_simp); have g1_b1_1 : w1.frozen? ⟨w.heap.size, 1, none⟩ = false := bfs hb1 (v := .int .u8 g) (by go_simp) (by go_simp); have k1_b1_2 : w1.cell? ⟨w.heap.size, 2, none⟩ = some (.int .u8 b) := bcs hb1 (by go_simp); have g1_b1_2 : w1.frozen? ⟨w.heap.size, 2, none⟩ = false := bfs hb1 (v := .int .u8 b) (by go_simp) (by go_simp); have k1_b1_3 : w1.cell? ⟨w.heap.size, 3, none⟩ = some (.int .u8 a) := bcs hb1 (by go_simp); have g1_b1_3 : w1.frozen? ⟨w.heap.size, 3, none⟩ = false := bfs hb1 (v := .int .u8 a) (by go_simp) (by go_simp); have k1_b2_0 : w1.cell? ⟨w.heap.size + 1, 0, none⟩ = some (.int .u8 0) := bcs hb1 (by go_simp); have g1_b2_0 : w1.frozen? ⟨w.heap.size + 1, 0, none⟩ = false := bfs hb1 (v := .int .u8 0) (by go_simp) (by go_simp); have k1_b2_1 : w1.cell? ⟨w.heap.size + 1, 1, none⟩ = some (.int .u8 0) := bcs hb1 (by go_simp); have g1_b2_1 : w1.frozen? ⟨w.heap.size + 1, 1, none⟩ = false := bfs hb1 (v := .int .u8 0) (by go_simp) (by go_simp); have k1_b2_2 : w1.cell? ⟨w.heap.size + 1, 2, none⟩ = some (.int .u8 0) := bcs hb1 (by go_simp); have g1_b2_2 : w1.frozen? ⟨w.heap.size + 1, 2, none⟩ = false := bfs hb1 (v := .int .u8 0) (by go_simp) (by go_simp); have k1_b2_3 : w1.cell? ⟨w.heap.size + 1, 3, none⟩ = some (.int .u8 0) := bcs hb1 (by go_simp); have g1_b2_3 : w1.frozen? ⟨w.heap.size + 1, 3, none⟩ = false := bfs hb1 (v := .int .u8 0) (by go_simp) (by go_simp); have q1_b1 : w.heap.size < w1.heap.size := qlt k1_b1_0; have x1_b1 : ¬ w.heap.size = w1.heap.size := qne k1_b1_0; have y1_b1 : ¬ w1.heap.size = w.heap.size := fun h => qne k1_b1_0 h.symm; have q1_b2 : w.heap.size + 1 < w1.heap.size := qlt k1_b2_0; have x1_b2 : ¬ w.heap.size + 1 = w1.heap.size := qne k1_b2_0; have y1_b2 : ¬ w1.heap.size = w.heap.size + 1 := fun h => qne k1_b2_0 h.symm; have B1 : Below w.heap.size w w1 := bel_step (by repeat (first | with_reducible exact Below.refl _ _ | fail | with_reducible apply below_drewN | with_reducible apply Below.drew | (with_reducible refine Below.alloc ?_ (by first | (simp; done) | (simp; omega) | omega) _) | (with_reducible refine Below.setCell ?_ (by first | (simp; done) | (simp; omega) | omega) _))) hb1; have z1 : w.heap.size + 1 + 1 ≤ w1.heap.size := Nat.le_trans (by first | with_reducible assumption | (simp; done) | (simp; omega)) hb1.size; clear hb1))
  refine bodyPost_ret (v := .agg #[.int .u8 l0, .int .u8 l1, .int .u8 l2, .int .u8 a]) (by simp [results, Try.results9, go_sem, *]) rfl ⟨rfl, ?_⟩
  repeat (first | with_reducible exact Below.refl _ _ | with_reducible exact B1 | with_reducible apply below_drewN | with_reducible apply Below.drew | (with_reducible refine Below.alloc ?_ (by first | (simp; done) | (simp; omega) | omega) _) | (with_reducible refine Below.setCell ?_ (by first | (simp; done) | (simp; omega) | omega) _))

end Go.Proofs.Ytmelfdajhnbnlaa
