import Derived.Test.YtedhjcjjalabdaaRows
import Derived.Test.YtedhjcjjalabdaaEnv
import Derived.Test.YtedhjcjjalabdaaPre
import Derived.WalkKit
import Derived.WalkSpells
import Derived.WalkLawsBesides
import Derived.Lib.Hide
import Derived.Below
import Derived.Deep.QuietTactic
import Derived.BigQuiet
import Derived.Deep.RegionHeld3
import Derived.Deep.DrawnRows
import Derived.Deep.DeepFit
import Derived.IntWalk
namespace Go.Proofs.Ytedhjcjjalabdaa
open Go.RowKit
set_option linter.unusedVariables false
set_option linter.unusedSimpArgs false
attribute [local go_sem ↓] Go.wp_at_zero Go.wp_at_succ
attribute [local go_sem] rhoF_tmp rhoF_const rhoF_global rhoF_func

set_option maxHeartbeats 1000000 in
theorem cclamp5  (w : World) :
    Calls Try.prog 18 #[.agg #[.int .u8 0, .int .u8 0, .int .u8 0, .int .u8 5]] w fun e w' => e = .returned (.agg #[.int .u8 0, .int .u8 0, .int .u8 0, .int .u8 5]) ∧ Below w.heap.size w w' := by
  go_enter Try.func18, Try.ntmps18
  go_wp2
  refine bodyPost_ret (v := .agg #[.int .u8 0, .int .u8 0, .int .u8 0, .int .u8 5]) (by simp [results, Try.results18, go_sem, *]) rfl ⟨rfl, ?_⟩
  repeat (first | with_reducible exact Below.refl _ _ | fail | with_reducible apply below_drewN | with_reducible apply Below.drew | (with_reducible refine Below.alloc ?_ (by first | (simp; done) | (simp; omega) | omega) _) | (with_reducible refine Below.setCell ?_ (by first | (simp; done) | (simp; omega) | omega) _))

set_option maxHeartbeats 1000000 in
theorem cvalid5  (w : World) :
    Calls Try.prog 16 #[.agg #[.int .u8 0, .int .u8 0, .int .u8 0, .int .u8 5]] w fun e w' => e = .returned (.bool true) ∧ Below w.heap.size w w' := by
  go_enter Try.func16, Try.ntmps16
  go_wp2
  refine wp_region_env (fun w' => w'.cell? ⟨w.heap.size, 0, none⟩ = some (.int .u8 0) ∧ w'.frozen? ⟨w.heap.size, 0, none⟩ = false ∧ w'.cell? ⟨w.heap.size, 1, none⟩ = some (.int .u8 0) ∧ w'.frozen? ⟨w.heap.size, 1, none⟩ = false ∧ w'.cell? ⟨w.heap.size, 2, none⟩ = some (.int .u8 0) ∧ w'.frozen? ⟨w.heap.size, 2, none⟩ = false ∧ w'.cell? ⟨w.heap.size, 3, none⟩ = some (.int .u8 5) ∧ w'.frozen? ⟨w.heap.size, 3, none⟩ = false) (fun W => W.cell? ⟨w.heap.size, 0, none⟩ = some (.int .u8 0) ∧ W.frozen? ⟨w.heap.size, 0, none⟩ = false ∧ W.cell? ⟨w.heap.size, 1, none⟩ = some (.int .u8 0) ∧ W.frozen? ⟨w.heap.size, 1, none⟩ = false ∧ W.cell? ⟨w.heap.size, 2, none⟩ = some (.int .u8 0) ∧ W.frozen? ⟨w.heap.size, 2, none⟩ = false ∧ W.cell? ⟨w.heap.size, 3, none⟩ = some (.int .u8 5) ∧ W.frozen? ⟨w.heap.size, 3, none⟩ = false ∧ Below w.heap.size w W ∧ w.heap.size + 1 ≤ W.heap.size) 5 7 [.val (.agg #[.int .u8 0, .int .u8 0, .int .u8 0, .int .u8 5]), .val (.agg #[.int .u8 0, .int .u8 0, .int .u8 0, .int .u8 5]), .call 18 #[.agg #[.int .u8 0, .int .u8 0, .int .u8 0, .int .u8 5]] (.agg #[.int .u8 0, .int .u8 0, .int .u8 0, .int .u8 5]), .val (.bool true), .val (.bool true)] (by kernel_rfl) (by kernel_rfl) rfl (by kernel_rfl) (by rintro w1 w2 ⟨h0, h1, h2, h3, h4, h5, h6, h7⟩ hb; exact ⟨bcs hb h0, bfs hb h0 h1, bcs hb h2, bfs hb h2 h3, bcs hb h4, bfs hb h4 h5, bcs hb h6, bfs hb h6 h7⟩) ⟨by first | with_reducible assumption | go_simp, by first | with_reducible assumption | go_simp, by first | with_reducible assumption | go_simp, by first | with_reducible assumption | go_simp, by first | with_reducible assumption | go_simp, by first | with_reducible assumption | go_simp, by first | with_reducible assumption | go_simp, by first | with_reducible assumption | go_simp, by repeat (first | with_reducible exact Below.refl _ _ | fail | with_reducible apply below_drewN | with_reducible apply Below.drew | (with_reducible refine Below.alloc ?_ (by first | (simp; done) | (simp; omega) | omega) _) | (with_reducible refine Below.setCell ?_ (by first | (simp; done) | (simp; omega) | omega) _)), by first | with_reducible assumption | (simp; done) | (simp; omega)⟩ ?_ ?_
  · rintro W ⟨k1_b1_0, g1_b1_0, k1_b1_1, g1_b1_1, k1_b1_2, g1_b1_2, k1_b1_3, g1_b1_3, B1, z1⟩; exact ⟨k1_b1_0, g1_b1_0, k1_b1_1, g1_b1_1, k1_b1_2, g1_b1_2, k1_b1_3, g1_b1_3⟩
  rintro w1 ⟨k1_b1_0, g1_b1_0, k1_b1_1, g1_b1_1, k1_b1_2, g1_b1_2, k1_b1_3, g1_b1_3, B1, z1⟩ gg
  simp only [List.take_succ_cons, List.take_zero, List.drop_succ_cons, List.drop_zero, List.cons_append, List.nil_append, List.append_nil]
  refine obe_val (by rfl) ?_ ?_
  · clear k1_b1_0 g1_b1_0 k1_b1_1 g1_b1_1 k1_b1_2 g1_b1_2 k1_b1_3 g1_b1_3 B1 z1; intro f hf; have u1 : f 1 = (.pointer (some ⟨w.heap.size, 0, none⟩)) := (by rw [← hf]; rfl); clear hf; rintro w' ⟨h0, h1, h2, h3, h4, h5, h6, h7⟩; go_simp; try exact IntWalk.i64_in _ (by omega)
  refine obe_val (by rfl) ?_ ?_
  · clear k1_b1_0 g1_b1_0 k1_b1_1 g1_b1_1 k1_b1_2 g1_b1_2 k1_b1_3 g1_b1_3 B1 z1; intro f hf; have u1 : f 1 = (.pointer (some ⟨w.heap.size, 0, none⟩)) := (by rw [← hf]; rfl); clear hf; rintro w' ⟨h0, h1, h2, h3, h4, h5, h6, h7⟩; go_simp; try exact IntWalk.i64_in _ (by omega)
  refine obe_call (by rfl) ?_ ?_ ?_
  · clear k1_b1_0 g1_b1_0 k1_b1_1 g1_b1_1 k1_b1_2 g1_b1_2 k1_b1_3 g1_b1_3 B1 z1; intro f hf; have u4 : f 4 = (.agg #[.int .u8 0, .int .u8 0, .int .u8 0, .int .u8 5]) := (by rw [← hf]; rfl); clear hf; intro w' _; simp only [execOp, resolve, invoke, rhoF_tmp, rhoF_func, rhoF_const, u4, List.map_toArray, List.map_cons, List.map_nil]; go_simp
  · clear k1_b1_0 g1_b1_0 k1_b1_1 g1_b1_1 k1_b1_2 g1_b1_2 k1_b1_3 g1_b1_3 B1 z1; rintro w' ⟨h0, h1, h2, h3, h4, h5, h6, h7⟩; exact cclamp5 _
  refine obe_val (by rfl) ?_ ?_
  · clear k1_b1_0 g1_b1_0 k1_b1_1 g1_b1_1 k1_b1_2 g1_b1_2 k1_b1_3 g1_b1_3 B1 z1; intro f hf; have u3 : f 3 = (.agg #[.int .u8 0, .int .u8 0, .int .u8 0, .int .u8 5]) := (by rw [← hf]; rfl); have u5 : f 5 = (.agg #[.int .u8 0, .int .u8 0, .int .u8 0, .int .u8 5]) := (by rw [← hf]; rfl); clear hf; rintro w' ⟨h0, h1, h2, h3, h4, h5, h6, h7⟩; go_simp; try exact IntWalk.i64_in _ (by omega)
  refine obe_val (by rfl) ?_ ?_
  · clear k1_b1_0 g1_b1_0 k1_b1_1 g1_b1_1 k1_b1_2 g1_b1_2 k1_b1_3 g1_b1_3 B1 z1; intro f hf; have u6 : f 6 = (.bool true) := (by rw [← hf]; rfl); clear hf; rintro w' ⟨h0, h1, h2, h3, h4, h5, h6, h7⟩; go_simp; try exact IntWalk.i64_in _ (by omega)
  refine obe_nil ?_
  rintro w2 ⟨h0, h1, h2, h3, h4, h5, h6, h7⟩ hb2 hF
  (try simp only [List.nil_append, List.append_nil, List.cons_append] at hF)
  simp only [puts, putD, Act.put, List.setIfInBounds_toArray, List.set_cons_zero, List.set_cons_succ]
  clear hF
  have k2_b1_0 := bcs hb2 k1_b1_0
  have g2_b1_0 := bfs hb2 k1_b1_0 g1_b1_0
  have k2_b1_1 := bcs hb2 k1_b1_1
  have g2_b1_1 := bfs hb2 k1_b1_1 g1_b1_1
  have k2_b1_2 := bcs hb2 k1_b1_2
  have g2_b1_2 := bfs hb2 k1_b1_2 g1_b1_2
  have k2_b1_3 := bcs hb2 k1_b1_3
  have g2_b1_3 := bfs hb2 k1_b1_3 g1_b1_3
  clear h0 h1 h2 h3 h4 h5 h6 h7
  have B2 := bel_step B1 hb2
  have z2 := Nat.le_trans z1 hb2.size
  clear hb2
  (try clear B1)
  (try clear z1)
  (try clear k1_b1_0)
  (try clear g1_b1_0)
  (try clear k1_b1_1)
  (try clear g1_b1_1)
  (try clear k1_b1_2)
  (try clear g1_b1_2)
  (try clear k1_b1_3)
  (try clear g1_b1_3)
  (try clear q1_b1)
  (try clear x1_b1)
  (try clear y1_b1)
  have q2_b1 : w.heap.size < w2.heap.size := qlt k2_b1_0
  have x2_b1 : ¬ w.heap.size = w2.heap.size := qne k2_b1_0
  have y2_b1 : ¬ w2.heap.size = w.heap.size := fun h => qne k2_b1_0 h.symm
  unfold wpList
  go_wp2
  go_ret
  refine ⟨rfl, ?_⟩
  repeat (first | with_reducible exact Below.refl _ _ | with_reducible exact B2 | with_reducible apply below_drewN | with_reducible apply Below.drew | (with_reducible refine Below.alloc ?_ (by first | (simp; done) | (simp; omega) | omega) _) | (with_reducible refine Below.setCell ?_ (by first | (simp; done) | (simp; omega) | omega) _))

set_option maxHeartbeats 1000000 in
theorem vfun5  (w : World) :
    Calls Try.prog 15 #[.agg #[.int .u8 0, .int .u8 0, .int .u8 0, .int .u8 5]] w fun e w' => e = .returned (.bool false) ∧ Below w.heap.size w w' := by
  go_enter Try.func15, Try.ntmps15
  go_wp2_with (first | (go_at_call 16; (with_reducible refine (cvalid5 _).mono ?_); rintro e w1 ⟨rfl, hb1⟩; have k1_b1_0 : w1.cell? ⟨w.heap.size, 0, none⟩ = some (.int .u8 0) := bcs hb1 (by go_simp); have g1_b1_0 : w1.frozen? ⟨w.heap.size, 0, none⟩ = false := bfs hb1 (v := .int .u8 0) (by go_simp) (by go_simp); have k1_b1_1 : w1.cell? ⟨w.heap.size, 1, none⟩ = some (.int .u8 0) := bcs hb1 (by go_simp); have g1_b1_1 : w1.frozen? ⟨w.heap.size, 1, none⟩ = false := bfs hb1 (v := .int .u8 0) (by go_simp) (by go_simp); have k1_b1_2 : w1.cell? ⟨w.heap.size, 2, none⟩ = some (.int .u8 0) := bcs hb1 (by go_simp); have g1_b1_2 : w1.frozen? ⟨w.heap.size, 2, none⟩ = false := bfs hb1 (v := .int .u8 0) (by go_simp) (by go_simp); have k1_b1_3 : w1.cell? ⟨w.heap.size, 3, none⟩ = some (.int .u8 5) := bcs hb1 (by go_simp); have g1_b1_3 : w1.frozen? ⟨w.heap.size, 3, none⟩ = false := bfs hb1 (v := .int .u8 5) (by go_simp) (by go_simp); have q1_b1 : w.heap.size < w1.heap.size := qlt k1_b1_0; have x1_b1 : ¬ w.heap.size = w1.heap.size := qne k1_b1_0; have y1_b1 : ¬ w1.heap.size = w.heap.size := fun h => qne k1_b1_0 h.symm; have B1 : Below w.heap.size w w1 := bel_step (by repeat (first | with_reducible exact Below.refl _ _ | fail | with_reducible apply below_drewN | with_reducible apply Below.drew | (with_reducible refine Below.alloc ?_ (by first | (simp; done) | (simp; omega) | omega) _) | (with_reducible refine Below.setCell ?_ (by first | (simp; done) | (simp; omega) | omega) _))) hb1; have z1 : w.heap.size + 1 ≤ w1.heap.size := Nat.le_trans (by first | with_reducible assumption | (simp; done) | (simp; omega)) hb1.size; clear hb1))
  go_ret
  refine ⟨rfl, ?_⟩
  repeat (first | with_reducible exact Below.refl _ _ | with_reducible exact B1 | with_reducible apply below_drewN | with_reducible apply Below.drew | (with_reducible refine Below.alloc ?_ (by first | (simp; done) | (simp; omega) | omega) _) | (with_reducible refine Below.setCell ?_ (by first | (simp; done) | (simp; omega) | omega) _))

set_option maxHeartbeats 1000000 in
theorem index5 (b : Nat) (w : World) (h0 : w.cell? ⟨b, 0, none⟩ = some (.int .u8 0)) (h1 : w.cell? ⟨b, 1, none⟩ = some (.int .u8 0)) (h2 : w.cell? ⟨b, 2, none⟩ = some (.int .u8 0)) (h3 : w.cell? ⟨b, 3, none⟩ = some (.int .u8 5)) :
    Calls Try.prog 17 #[.slice (some ⟨b, 0, none⟩) 1 1, .func (.func 15) #[] #[]] w fun e w' => e = .returned (.int .i64 (-1)) ∧ Below w.heap.size w w' := by
  go_enter Try.func17, Try.ntmps17
  go_wp2
  have hb := qlt h0
  go_loopw [8] (fun k wr => ∃ j : Int, (j = 0 ∨ j = 1) ∧ k = .int .i64 j ∧ Below w.heap.size w wr) (fun k _ => (1 - intOf k).toNat)
  case atStart => exact ⟨0, .inl rfl, rfl, Below.refl _ _⟩
  case round =>
    obtain ⟨j, hj, rfl, hB⟩ := hrel
    rcases hj with rfl | rfl
    · have k0 := (hB.cell (p := ⟨b, 0, none⟩) hb).trans h0
      have k1 := (hB.cell (p := ⟨b, 1, none⟩) hb).trans h1
      have k2 := (hB.cell (p := ⟨b, 2, none⟩) hb).trans h2
      have k3 := (hB.cell (p := ⟨b, 3, none⟩) hb).trans h3
      go_wp2_with (go_at_call 15; (with_reducible refine (vfun5 _).mono ?_); rintro e w9 ⟨rfl, hb9⟩)
      go_roundw
      case rel => exact ⟨1, .inr rfl, rfl, bel_step hB hb9⟩
      case measure => simp [intOf]
    · go_wp2
      go_ret
      exact ⟨rfl, hB⟩

theorem contains5 (b : Nat) (w : World) (h0 : w.cell? ⟨b, 0, none⟩ = some (.int .u8 0)) (h1 : w.cell? ⟨b, 1, none⟩ = some (.int .u8 0)) (h2 : w.cell? ⟨b, 2, none⟩ = some (.int .u8 0)) (h3 : w.cell? ⟨b, 3, none⟩ = some (.int .u8 5)) :
    Calls Try.prog 14 #[.slice (some ⟨b, 0, none⟩) 1 1, .func (.func 15) #[] #[]] w fun e w' => e = .returned (.bool false) ∧ Below w.heap.size w w' := by
  go_enter Try.func14, Try.ntmps14
  go_wp2_with (go_at_call 17; (with_reducible refine (index5 b _ h0 h1 h2 h3).mono ?_); rintro e w9 ⟨rfl, hb9⟩)
  go_ret
  exact ⟨rfl, hb9⟩

theorem vsize1 (w : World) :
    Calls Try.prog 13 #[.int .i64 1, .int .i64 1] w fun e w' => e = .returned (.bool true) ∧ w = w' := by
  go_enter Try.func13, Try.ntmps13
  go_wp2
  go_ret
  exact ⟨rfl, rfl⟩

set_option maxHeartbeats 1000000 in
theorem ivalid1 (b : Nat) (w : World) (h0 : w.cell? ⟨b, 0, none⟩ = some (.int .u8 0)) (h1 : w.cell? ⟨b, 1, none⟩ = some (.int .u8 0)) (h2 : w.cell? ⟨b, 2, none⟩ = some (.int .u8 0)) (h3 : w.cell? ⟨b, 3, none⟩ = some (.int .u8 5)) :
    Calls Try.prog 12 #[.agg #[.int .i64 1, .int .i64 1, .slice (some ⟨b, 0, none⟩) 1 1]] w fun e w' => e = .returned (.bool true) ∧ Below w.heap.size w w' := by
  have hb := qlt h0
  go_enter Try.func12, Try.ntmps12
  go_wp2_with (first | (go_at_call 13; (with_reducible refine (vsize1 _).mono ?_); rintro e w9 ⟨rfl, rfl⟩) | (go_at_call 14; (with_reducible refine (contains5 b _ (by go_simp) (by go_simp) (by go_simp) (by go_simp)).mono ?_); rintro e w9 ⟨rfl, hb9⟩))
  go_ret
  exact ⟨rfl, bel_step ((Below.refl _ _).alloc (Nat.le_refl _) _) hb9⟩
end Go.Proofs.Ytedhjcjjalabdaa
