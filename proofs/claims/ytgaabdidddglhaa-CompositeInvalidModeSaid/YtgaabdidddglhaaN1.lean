import Derived.Test.YtgaabdidddglhaaB4
import Derived.WalkKit
import Derived.WalkSpells
import Derived.WalkLawsBesides
import Derived.Lib.Hide
import Derived.Below
import Derived.Deep.QuietTactic
import Derived.BigQuiet
import Derived.Deep.RegionHeld3
import Derived.Deep.DrawnRows
import Derived.Deep.DeepFit
import Derived.IntWalk
namespace Go.Proofs.Ytgaabdidddglhaa
open Go.RowKit
set_option linter.unusedVariables false
set_option linter.unusedSimpArgs false
attribute [local go_sem ↓] Go.wp_at_zero Go.wp_at_succ
attribute [local go_sem] rhoF_tmp rhoF_const rhoF_global rhoF_func

set_option maxHeartbeats 2000000 in
theorem slMin_any (p : Nat) (x0 x1 x2 : Int) (w : World) (h0 : w.cell? ⟨p, 0, none⟩ = some (.int .i64 x0)) (h1 : w.cell? ⟨p, 1, none⟩ = some (.int .i64 x1)) (h2 : w.cell? ⟨p, 2, none⟩ = some (.int .i64 x2)) :
    Calls Try.prog 59 #[.slice (some ⟨p, 0, none⟩) 3 3] w fun e w' => e = .returned (.int .i64 (min (min x0 x1) x2)) ∧ w = w' := by
  obtain ⟨y, hy⟩ : ∃ x, min x0 x1 = x := ⟨_, rfl⟩
  have g1 : (if x1 < x0 then x1 else x0) = y := by rw [← hy]; omega
  rw [hy]
  clear hy
  obtain ⟨z, hz⟩ : ∃ x, min y x2 = x := ⟨_, rfl⟩
  have g2 : (if x2 < y then x2 else y) = z := by rw [← hz]; omega
  rw [hz]
  clear hz
  go_enter Try.func59, Try.ntmps59
  go_wp2
  go_loopw [3, 4] (fun v k wr => wr = w ∧ ((k = .int .i64 1 ∧ v = .int .i64 x0) ∨ (k = .int .i64 2 ∧ v = .int .i64 y) ∨ (k = .int .i64 3 ∧ v = .int .i64 z))) (fun _ k _ => (3 - intOf k).toNat)
  case atStart => exact ⟨rfl, .inl ⟨rfl, rfl⟩⟩
  case round =>
    obtain ⟨rfl, ⟨rfl, rfl⟩ | ⟨rfl, rfl⟩ | ⟨rfl, rfl⟩⟩ := hrel
    · go_wp2
      go_roundw
      case rel => simp
      case measure => simp [intOf]
    · go_wp2
      go_roundw
      case rel => simp
      case measure => simp [intOf]
    · go_wp2
      go_ret
      exact ⟨rfl, rfl⟩

set_option maxHeartbeats 2000000 in
theorem slMax_any (p : Nat) (x0 x1 x2 : Int) (w : World) (h0 : w.cell? ⟨p, 0, none⟩ = some (.int .i64 x0)) (h1 : w.cell? ⟨p, 1, none⟩ = some (.int .i64 x1)) (h2 : w.cell? ⟨p, 2, none⟩ = some (.int .i64 x2)) :
    Calls Try.prog 60 #[.slice (some ⟨p, 0, none⟩) 3 3] w fun e w' => e = .returned (.int .i64 (max (max x0 x1) x2)) ∧ w = w' := by
  obtain ⟨y, hy⟩ : ∃ x, max x0 x1 = x := ⟨_, rfl⟩
  have g1 : (if x0 < x1 then x1 else x0) = y := by rw [← hy]; omega
  rw [hy]
  clear hy
  obtain ⟨z, hz⟩ : ∃ x, max y x2 = x := ⟨_, rfl⟩
  have g2 : (if y < x2 then x2 else y) = z := by rw [← hz]; omega
  rw [hz]
  clear hz
  go_enter Try.func60, Try.ntmps60
  go_wp2
  go_loopw [3, 4] (fun v k wr => wr = w ∧ ((k = .int .i64 1 ∧ v = .int .i64 x0) ∨ (k = .int .i64 2 ∧ v = .int .i64 y) ∨ (k = .int .i64 3 ∧ v = .int .i64 z))) (fun _ k _ => (3 - intOf k).toNat)
  case atStart => exact ⟨rfl, .inl ⟨rfl, rfl⟩⟩
  case round =>
    obtain ⟨rfl, ⟨rfl, rfl⟩ | ⟨rfl, rfl⟩ | ⟨rfl, rfl⟩⟩ := hrel
    · go_wp2
      go_roundw
      case rel => simp
      case measure => simp [intOf]
    · go_wp2
      go_roundw
      case rel => simp
      case measure => simp [intOf]
    · go_wp2
      go_ret
      exact ⟨rfl, rfl⟩

set_option maxHeartbeats 1000000 in
theorem lum_any (x0 x1 x2 : Int) (a : Int) (a0 : 0 ≤ a) (a1 : a ≤ 65025) (x00 : 0 ≤ x0) (x01 : x0 ≤ a) (x10 : 0 ≤ x1) (x11 : x1 ≤ a) (x20 : 0 ≤ x2) (x21 : x2 ≤ a) (w : World) :
    Calls Try.prog 58 #[.agg #[.int .i64 x0, .int .i64 x1, .int .i64 x2]] w fun e w' => e = .returned (.int .i64 (30 * x0 + 59 * x1 + 11 * x2)) ∧ Below w.heap.size w w' := by
  go_enter Try.func58, Try.ntmps58
  go_wp2
  go_ret
  refine ⟨rfl, ?_⟩
  repeat (first | with_reducible exact Below.refl _ _ | fail | with_reducible apply below_drewN | with_reducible apply Below.drew | (with_reducible refine Below.alloc ?_ (by first | (simp; done) | (simp; omega) | omega) _) | (with_reducible refine Below.setCell ?_ (by first | (simp; done) | (simp; omega) | omega) _))

set_option maxHeartbeats 2000000 in
theorem sat_any (x0 x1 x2 : Int) (a : Int) (a0 : 0 ≤ a) (a1 : a ≤ 65025) (x00 : 0 ≤ x0) (x01 : x0 ≤ a) (x10 : 0 ≤ x1) (x11 : x1 ≤ a) (x20 : 0 ≤ x2) (x21 : x2 ≤ a) (w : World) :
    Calls Try.prog 57 #[.agg #[.int .i64 x0, .int .i64 x1, .int .i64 x2]] w fun e w' => e = .returned (.int .i64 (max (max x0 x1) x2 - min (min x0 x1) x2)) ∧ Below w.heap.size w w' := by
  have cmin := fun p w h0 h1 h2 => slMin_any p x0 x1 x2 w h0 h1 h2
  have cmax := fun p w h0 h1 h2 => slMax_any p x0 x1 x2 w h0 h1 h2
  obtain ⟨lo, hlo⟩ : ∃ x, min (min x0 x1) x2 = x := ⟨_, rfl⟩
  obtain ⟨hi, hhi⟩ : ∃ x, max (max x0 x1) x2 = x := ⟨_, rfl⟩
  have lo0 : 0 ≤ lo := by omega
  have lo1 : lo ≤ hi := by omega
  have hi1 : hi ≤ a := by omega
  rw [hlo, hhi]
  rw [hlo] at cmin
  rw [hhi] at cmax
  clear hlo hhi
  go_enter Try.func57, Try.ntmps57
  go_wp2
  refine wp_region_env (fun w' => w'.cell? ⟨w.heap.size, 0, none⟩ = some (.int .i64 x0) ∧ w'.frozen? ⟨w.heap.size, 0, none⟩ = false ∧ w'.cell? ⟨w.heap.size, 1, none⟩ = some (.int .i64 x1) ∧ w'.frozen? ⟨w.heap.size, 1, none⟩ = false ∧ w'.cell? ⟨w.heap.size, 2, none⟩ = some (.int .i64 x2) ∧ w'.frozen? ⟨w.heap.size, 2, none⟩ = false) (fun W => W.cell? ⟨w.heap.size, 0, none⟩ = some (.int .i64 x0) ∧ W.frozen? ⟨w.heap.size, 0, none⟩ = false ∧ W.cell? ⟨w.heap.size, 1, none⟩ = some (.int .i64 x1) ∧ W.frozen? ⟨w.heap.size, 1, none⟩ = false ∧ W.cell? ⟨w.heap.size, 2, none⟩ = some (.int .i64 x2) ∧ W.frozen? ⟨w.heap.size, 2, none⟩ = false ∧ Below w.heap.size w W ∧ w.heap.size + 1 ≤ W.heap.size) 6 8 [.val (.slice (some ⟨w.heap.size, 0, none⟩) 3 3), .call 60 #[.slice (some ⟨w.heap.size, 0, none⟩) 3 3] (.int .i64 hi), .val (.slice (some ⟨w.heap.size, 0, none⟩) 3 3), .call 59 #[.slice (some ⟨w.heap.size, 0, none⟩) 3 3] (.int .i64 lo), .val (.int .i64 (hi - lo)), .val (.int .i64 (hi - lo))] (by kernel_rfl) (by kernel_rfl) rfl (by kernel_rfl) (by rintro w1 w2 ⟨h0, h1, h2, h3, h4, h5⟩ hb; exact ⟨bcs hb h0, bfs hb h0 h1, bcs hb h2, bfs hb h2 h3, bcs hb h4, bfs hb h4 h5⟩) ⟨by first | with_reducible assumption | go_simp, by first | with_reducible assumption | go_simp, by first | with_reducible assumption | go_simp, by first | with_reducible assumption | go_simp, by first | with_reducible assumption | go_simp, by first | with_reducible assumption | go_simp, by repeat (first | with_reducible exact Below.refl _ _ | fail | with_reducible apply below_drewN | with_reducible apply Below.drew | (with_reducible refine Below.alloc ?_ (by first | (simp; done) | (simp; omega) | omega) _) | (with_reducible refine Below.setCell ?_ (by first | (simp; done) | (simp; omega) | omega) _)), by first | with_reducible assumption | (simp; done) | (simp; omega)⟩ ?_ ?_
  · rintro W ⟨k1_b1_0, g1_b1_0, k1_b1_1, g1_b1_1, k1_b1_2, g1_b1_2, B1, z1⟩; exact ⟨k1_b1_0, g1_b1_0, k1_b1_1, g1_b1_1, k1_b1_2, g1_b1_2⟩
  rintro w1 ⟨k1_b1_0, g1_b1_0, k1_b1_1, g1_b1_1, k1_b1_2, g1_b1_2, B1, z1⟩ gg
  simp only [List.take_succ_cons, List.take_zero, List.drop_succ_cons, List.drop_zero, List.cons_append, List.nil_append, List.append_nil]
  refine obe_val (by rfl) ?_ ?_
  · clear k1_b1_0 g1_b1_0 k1_b1_1 g1_b1_1 k1_b1_2 g1_b1_2 B1 z1; intro f hf; have u1 : f 1 = (.pointer (some ⟨w.heap.size, 0, none⟩)) := (by rw [← hf]; rfl); clear hf; rintro w' ⟨h0, h1, h2, h3, h4, h5⟩; go_simp; try exact IntWalk.i64_in _ (by omega)
  refine obe_call (by rfl) ?_ ?_ ?_
  · clear k1_b1_0 g1_b1_0 k1_b1_1 g1_b1_1 k1_b1_2 g1_b1_2 B1 z1; intro f hf; have u3 : f 3 = (.slice (some ⟨w.heap.size, 0, none⟩) 3 3) := (by rw [← hf]; rfl); clear hf; intro w' _; simp only [execOp, resolve, invoke, rhoF_tmp, rhoF_func, rhoF_const, u3, List.map_toArray, List.map_cons, List.map_nil]; go_simp
  · clear k1_b1_0 g1_b1_0 k1_b1_1 g1_b1_1 k1_b1_2 g1_b1_2 B1 z1; rintro w' ⟨h0, h1, h2, h3, h4, h5⟩; exact (cmax _ _ (by assumption) (by assumption) (by assumption)).mono (by rintro e w2 ⟨rfl, rfl⟩; exact ⟨rfl, Below.refl _ _⟩)
  refine obe_val (by rfl) ?_ ?_
  · clear k1_b1_0 g1_b1_0 k1_b1_1 g1_b1_1 k1_b1_2 g1_b1_2 B1 z1; intro f hf; have u1 : f 1 = (.pointer (some ⟨w.heap.size, 0, none⟩)) := (by rw [← hf]; rfl); clear hf; rintro w' ⟨h0, h1, h2, h3, h4, h5⟩; go_simp; try exact IntWalk.i64_in _ (by omega)
  refine obe_call (by rfl) ?_ ?_ ?_
  · clear k1_b1_0 g1_b1_0 k1_b1_1 g1_b1_1 k1_b1_2 g1_b1_2 B1 z1; intro f hf; have u5 : f 5 = (.slice (some ⟨w.heap.size, 0, none⟩) 3 3) := (by rw [← hf]; rfl); clear hf; intro w' _; simp only [execOp, resolve, invoke, rhoF_tmp, rhoF_func, rhoF_const, u5, List.map_toArray, List.map_cons, List.map_nil]; go_simp
  · clear k1_b1_0 g1_b1_0 k1_b1_1 g1_b1_1 k1_b1_2 g1_b1_2 B1 z1; rintro w' ⟨h0, h1, h2, h3, h4, h5⟩; exact (cmin _ _ (by assumption) (by assumption) (by assumption)).mono (by rintro e w2 ⟨rfl, rfl⟩; exact ⟨rfl, Below.refl _ _⟩)
  refine obe_val (by rfl) ?_ ?_
  · clear k1_b1_0 g1_b1_0 k1_b1_1 g1_b1_1 k1_b1_2 g1_b1_2 B1 z1; intro f hf; have u4 : f 4 = (.int .i64 hi) := (by rw [← hf]; rfl); have u6 : f 6 = (.int .i64 lo) := (by rw [← hf]; rfl); clear hf; rintro w' ⟨h0, h1, h2, h3, h4, h5⟩; go_simp; try exact IntWalk.i64_in _ (by omega)
  refine obe_val (by rfl) ?_ ?_
  · clear k1_b1_0 g1_b1_0 k1_b1_1 g1_b1_1 k1_b1_2 g1_b1_2 B1 z1; intro f hf; have u7 : f 7 = (.int .i64 (hi - lo)) := (by rw [← hf]; rfl); clear hf; rintro w' ⟨h0, h1, h2, h3, h4, h5⟩; go_simp; try exact IntWalk.i64_in _ (by omega)
  refine obe_nil ?_
  rintro w2 ⟨h0, h1, h2, h3, h4, h5⟩ hb2 hF
  (try simp only [List.nil_append, List.append_nil, List.cons_append] at hF)
  simp only [puts, putD, Act.put, List.setIfInBounds_toArray, List.set_cons_zero, List.set_cons_succ]
  clear hF
  have k2_b1_0 := bcs hb2 k1_b1_0
  have g2_b1_0 := bfs hb2 k1_b1_0 g1_b1_0
  have k2_b1_1 := bcs hb2 k1_b1_1
  have g2_b1_1 := bfs hb2 k1_b1_1 g1_b1_1
  have k2_b1_2 := bcs hb2 k1_b1_2
  have g2_b1_2 := bfs hb2 k1_b1_2 g1_b1_2
  clear h0 h1 h2 h3 h4 h5
  have B2 := bel_step B1 hb2
  have z2 := Nat.le_trans z1 hb2.size
  clear hb2
  (try clear B1)
  (try clear z1)
  (try clear k1_b1_0)
  (try clear g1_b1_0)
  (try clear k1_b1_1)
  (try clear g1_b1_1)
  (try clear k1_b1_2)
  (try clear g1_b1_2)
  (try clear q1_b1)
  (try clear x1_b1)
  (try clear y1_b1)
  have q2_b1 : w.heap.size < w2.heap.size := qlt k2_b1_0
  have x2_b1 : ¬ w.heap.size = w2.heap.size := qne k2_b1_0
  have y2_b1 : ¬ w2.heap.size = w.heap.size := fun h => qne k2_b1_0 h.symm
  unfold wpList
  go_wp2
  go_ret
  refine ⟨rfl, ?_⟩
  repeat (first | with_reducible exact Below.refl _ _ | with_reducible exact B2 | with_reducible apply below_drewN | with_reducible apply Below.drew | (with_reducible refine Below.alloc ?_ (by first | (simp; done) | (simp; omega) | omega) _) | (with_reducible refine Below.setCell ?_ (by first | (simp; done) | (simp; omega) | omega) _))

set_option maxHeartbeats 1000000 in
theorem scaled_any (x0 x1 x2 k : Int) (k0 : 0 ≤ k) (k1 : k ≤ 255) (x00 : 0 ≤ x0) (x01 : x0 ≤ 255) (x10 : 0 ≤ x1) (x11 : x1 ≤ 255) (x20 : 0 ≤ x2) (x21 : x2 ≤ 255) (w : World) :
    Calls Try.prog 48 #[.agg #[.int .i64 x0, .int .i64 x1, .int .i64 x2], .int .i64 k] w fun e w' => e = .returned (.agg #[.int .i64 (k * x0), .int .i64 (k * x1), .int .i64 (k * x2)]) ∧ Below w.heap.size w w' := by
  have p0 : 0 ≤ k * x0 := Int.mul_nonneg k0 x00
  have q0 : k * x0 ≤ 255 * 255 := Int.mul_le_mul k1 x01 x00 (by omega)
  have p1 : 0 ≤ k * x1 := Int.mul_nonneg k0 x10
  have q1 : k * x1 ≤ 255 * 255 := Int.mul_le_mul k1 x11 x10 (by omega)
  have p2 : 0 ≤ k * x2 := Int.mul_nonneg k0 x20
  have q2 : k * x2 ≤ 255 * 255 := Int.mul_le_mul k1 x21 x20 (by omega)
  go_enter Try.func48, Try.ntmps48
  go_wp2
  refine bodyPost_ret (v := .agg #[.int .i64 (k * x0), .int .i64 (k * x1), .int .i64 (k * x2)]) (by simp [results, Try.results48, go_sem, *]) rfl ⟨rfl, ?_⟩
  repeat (first | with_reducible exact Below.refl _ _ | fail | with_reducible apply below_drewN | with_reducible apply Below.drew | (with_reducible refine Below.alloc ?_ (by first | (simp; done) | (simp; omega) | omega) _) | (with_reducible refine Below.setCell ?_ (by first | (simp; done) | (simp; omega) | omega) _))
end Go.Proofs.Ytgaabdidddglhaa
