import Derived.Test.YtgaabdidddglhaaM5
import Derived.WalkKit
import Derived.WalkSpells
import Derived.WalkLawsBesides
import Derived.Lib.Hide
import Derived.Below
import Derived.Deep.QuietTactic
import Derived.BigQuiet
import Derived.Deep.RegionHeld3
import Derived.Deep.DrawnRows
import Derived.Deep.DeepFit
import Derived.IntWalk
namespace Go.Proofs.Ytgaabdidddglhaa
open Go.RowKit
set_option linter.unusedVariables false
set_option linter.unusedSimpArgs false
attribute [local go_sem ↓] Go.wp_at_zero Go.wp_at_succ
attribute [local go_sem] rhoF_tmp rhoF_const rhoF_global rhoF_func

set_option maxHeartbeats 4000000 in
theorem cfactors_w (op s d : Int) (s0 : 0 ≤ s) (s1 : s ≤ 255) (d0 : 0 ≤ d) (d1 : d ≤ 255) (hw : (Lit.int .i64 op).wf = true) (w : World) :
    Calls Try.prog 3 #[.int .i64 op, .agg #[.int .u8 s, .int .u8 d]] w fun e w' => e = .returned (.bool true) ∧ Below w.heap.size w w' := by
  have cf := fun w => factors_any op s d s0 s1 d0 d1 hw w
  have crf := fun w => rfactors_any op s d s0 s1 d0 d1 w
  have cv := fun w => validOp_any op hw w
  have crv := fun w => rvalidOp_any op w
  obtain ⟨f1, hf1⟩ : ∃ z, fac1 op s d = z := ⟨_, rfl⟩
  obtain ⟨f2, hf2⟩ : ∃ z, ff2 op s d = z := ⟨_, rfl⟩
  obtain ⟨v, hv⟩ : ∃ z, (decide (1 ≤ op) && decide (op ≤ 10)) = z := ⟨_, rfl⟩
  rw [hf1, hf2] at cf crf
  rw [hv] at cv crv
  clear hf1 hf2 hv
  go_enter Try.func3, Try.ntmps3
  go_wp2_with (first | (go_at_call 10; (with_reducible refine (cf _).mono ?_); rintro e w1 ⟨rfl, hb1⟩; have k1_b3_0 : w1.cell? ⟨w.heap.size, 0, none⟩ = some (.int .u8 s) := bcs hb1 (by go_simp); have g1_b3_0 : w1.frozen? ⟨w.heap.size, 0, none⟩ = false := bfs hb1 (v := .int .u8 s) (by go_simp) (by go_simp); have k1_b3_1 : w1.cell? ⟨w.heap.size, 1, none⟩ = some (.int .u8 d) := bcs hb1 (by go_simp); have g1_b3_1 : w1.frozen? ⟨w.heap.size, 1, none⟩ = false := bfs hb1 (v := .int .u8 d) (by go_simp) (by go_simp); have q1_b3 : w.heap.size < w1.heap.size := qlt k1_b3_0; have x1_b3 : ¬ w.heap.size = w1.heap.size := qne k1_b3_0; have y1_b3 : ¬ w1.heap.size = w.heap.size := fun h => qne k1_b3_0 h.symm; have B1 : Below w.heap.size w w1 := bel_step (by repeat (first | with_reducible exact Below.refl _ _ | fail | with_reducible apply below_drewN | with_reducible apply Below.drew | (with_reducible refine Below.alloc ?_ (by first | (simp; done) | (simp; omega) | omega) _) | (with_reducible refine Below.setCell ?_ (by first | (simp; done) | (simp; omega) | omega) _))) hb1; have z1 : w.heap.size + 1 ≤ w1.heap.size := Nat.le_trans (by first | with_reducible assumption | (simp; done) | (simp; omega)) hb1.size; clear hb1) | (go_at_call 11; (with_reducible refine (crf _).mono ?_); rintro e w9 ⟨rfl, rfl⟩) | (go_at_call 12; (with_reducible refine (cv _).mono ?_); rintro e w2 ⟨rfl, hb2⟩; have k2_b3_0 : w2.cell? ⟨w.heap.size, 0, none⟩ = some (.int .u8 s) := bcs hb2 (by go_simp); have g2_b3_0 : w2.frozen? ⟨w.heap.size, 0, none⟩ = false := bfs hb2 (v := .int .u8 s) (by go_simp) (by go_simp); have k2_b3_1 : w2.cell? ⟨w.heap.size, 1, none⟩ = some (.int .u8 d) := bcs hb2 (by go_simp); have g2_b3_1 : w2.frozen? ⟨w.heap.size, 1, none⟩ = false := bfs hb2 (v := .int .u8 d) (by go_simp) (by go_simp); have q2_b3 : w.heap.size < w2.heap.size := qlt k2_b3_0; have x2_b3 : ¬ w.heap.size = w2.heap.size := qne k2_b3_0; have y2_b3 : ¬ w2.heap.size = w.heap.size := fun h => qne k2_b3_0 h.symm; have B2 : Below w.heap.size w w2 := bel_step (by repeat (first | with_reducible exact Below.refl _ _ | with_reducible exact B1 | with_reducible apply below_drewN | with_reducible apply Below.drew | (with_reducible refine Below.alloc ?_ (by first | (simp; done) | (simp; omega) | omega) _) | (with_reducible refine Below.setCell ?_ (by first | (simp; done) | (simp; omega) | omega) _))) hb2; have z2 : w.heap.size + 1 ≤ w2.heap.size := Nat.le_trans (by first | with_reducible assumption | (simp; done) | (simp; omega)) hb2.size; clear hb2; (try clear k1_b3_0); (try clear g1_b3_0); (try clear k1_b3_1); (try clear g1_b3_1); (try clear B1); (try clear z1); (try clear q1_b3); (try clear x1_b3); (try clear y1_b3)) | (go_at_call 13; (with_reducible refine (crv _).mono ?_); rintro e w9 ⟨rfl, rfl⟩) | (go_at_call 14; (with_reducible refine (cex_any _).mono ?_); rintro e w3 ⟨rfl, hb3⟩; have k3_b3_0 : w3.cell? ⟨w.heap.size, 0, none⟩ = some (.int .u8 s) := bcs hb3 (by go_simp); have g3_b3_0 : w3.frozen? ⟨w.heap.size, 0, none⟩ = false := bfs hb3 (v := .int .u8 s) (by go_simp) (by go_simp); have k3_b3_1 : w3.cell? ⟨w.heap.size, 1, none⟩ = some (.int .u8 d) := bcs hb3 (by go_simp); have g3_b3_1 : w3.frozen? ⟨w.heap.size, 1, none⟩ = false := bfs hb3 (v := .int .u8 d) (by go_simp) (by go_simp); have q3_b3 : w.heap.size < w3.heap.size := qlt k3_b3_0; have x3_b3 : ¬ w.heap.size = w3.heap.size := qne k3_b3_0; have y3_b3 : ¬ w3.heap.size = w.heap.size := fun h => qne k3_b3_0 h.symm; have B3 : Below w.heap.size w w3 := bel_step (by repeat (first | with_reducible exact Below.refl _ _ | with_reducible exact B2 | with_reducible apply below_drewN | with_reducible apply Below.drew | (with_reducible refine Below.alloc ?_ (by first | (simp; done) | (simp; omega) | omega) _) | (with_reducible refine Below.setCell ?_ (by first | (simp; done) | (simp; omega) | omega) _))) hb3; have z3 : w.heap.size + 1 ≤ w3.heap.size := Nat.le_trans (by first | with_reducible assumption | (simp; done) | (simp; omega)) hb3.size; clear hb3; (try clear k2_b3_0); (try clear g2_b3_0); (try clear k2_b3_1); (try clear g2_b3_1); (try clear B2); (try clear z2); (try clear q2_b3); (try clear x2_b3); (try clear y2_b3)))
  go_ret
  refine ⟨rfl, ?_⟩
  repeat (first | with_reducible exact Below.refl _ _ | with_reducible exact B3 | with_reducible apply below_drewN | with_reducible apply Below.drew | (with_reducible refine Below.alloc ?_ (by first | (simp; done) | (simp; omega) | omega) _) | (with_reducible refine Below.setCell ?_ (by first | (simp; done) | (simp; omega) | omega) _))
end Go.Proofs.Ytgaabdidddglhaa
