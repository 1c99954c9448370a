
import Derived.Test.YtmelfdajhnbnlaaC6
import Derived.Test.YtmelfdajhnbnlaaC2
import Derived.Test.YtmelfdajhnbnlaaC3
import Derived.Test.YtmelfdajhnbnlaaC4
import Derived.WalkKit
import Derived.WalkSpells
import Derived.WalkLawsBesides
import Derived.Lib.Hide
import Derived.Below
import Derived.Deep.QuietTactic
import Derived.BigQuiet
import Derived.Deep.RegionHeld3
import Derived.Deep.DrawnRows
import Derived.Deep.DeepFit
import Derived.IntWalk
namespace Go.Proofs.Ytmelfdajhnbnlaa
open Go.RowKit
set_option linter.unusedVariables false
set_option linter.unusedSimpArgs false
attribute [local go_sem ↓] Go.wp_at_zero Go.wp_at_succ
attribute [local go_sem] rhoF_tmp rhoF_const rhoF_global rhoF_func

def u8 (r : Int) : UInt8 := UInt8.ofNat r.toNat
theorem u8_eq (r : Int) (h0 : 0 ≤ r) (h1 : r ≤ 255) : (((u8 r).toNat : Nat) : Int) = r := by
  have : (u8 r).toNat = r.toNat := by
    show (BitVec.ofNat 8 r.toNat).toNat = _
    rw [BitVec.toNat_ofNat]
    omega
  rw [this]
  omega
theorem u8_back (x : UInt8) : u8 (x.toNat : Int) = x := by
  unfold u8
  rw [Int.toNat_natCast, UInt8.ofNat_toNat]
/-- The text of a color. -/
def fmtI (r g b a : Int) : ByteArray := ⟨(fmtL (u8 r) (u8 g) (u8 b) (u8 a)).toArray⟩
theorem c4_eq (r g b a : Int) (r0 : 0 ≤ r) (r1 : r ≤ 255) (g0 : 0 ≤ g) (g1 : g ≤ 255) (b0 : 0 ≤ b) (b1 : b ≤ 255) (a0 : 0 ≤ a) (a1 : a ≤ 255) : c4 (u8 r) (u8 g) (u8 b) (u8 a) = .agg #[.int .u8 r, .int .u8 g, .int .u8 b, .int .u8 a] := by
  unfold c4
  rw [u8_eq r r0 r1, u8_eq g g0 g1, u8_eq b b0 b1, u8_eq a a0 a1]
theorem formatI_any (r g b a : Int) (r0 : 0 ≤ r) (r1 : r ≤ 255) (g0 : 0 ≤ g) (g1 : g ≤ 255) (b0 : 0 ≤ b) (b1 : b ≤ 255) (a0 : 0 ≤ a) (a1 : a ≤ 255) (w : World) : Calls Try.prog 10 #[.agg #[.int .u8 r, .int .u8 g, .int .u8 b, .int .u8 a]] w fun e w' => e = .returned (.string (fmtI r g b a)) ∧ Below w.heap.size w w' := by
  rw [← c4_eq r g b a r0 r1 g0 g1 b0 b1 a0 a1]
  exact format_any _ _ _ _ w
theorem parseF_any (r g b a : Int) (r0 : 0 ≤ r) (r1 : r ≤ 255) (g0 : 0 ≤ g) (g1 : g ≤ 255) (b0 : 0 ≤ b) (b1 : b ≤ 255) (a0 : 0 ≤ a) (a1 : a ≤ 255) (w : World) : Calls Try.prog 8 #[.string (fmtI r g b a)] w fun e w' => e = .returned (.tuple #[.agg #[.int .u8 r, .int .u8 g, .int .u8 b, .int .u8 a], .int .i64 0]) ∧ Below w.heap.size w w' := by
  rw [← c4_eq r g b a r0 r1 g0 g1 b0 b1 a0 a1]
  refine (parse_any (fmtI r g b a) (fmtL (u8 r) (u8 g) (u8 b) (u8 a)) w rfl (by rw [fmtL_len]; omega)).mono ?_
  rintro e w' ⟨h, hb⟩
  exact ⟨h.some (parC_fmt _ _ _ _), hb⟩
theorem ex_fmt : fmtI 255 128 0 128 = ⟨#[35, 102, 102, 56, 48, 48, 48, 56, 48]⟩ := by
  unfold fmtI
  congr 1

set_option maxRecDepth 50000 in
set_option maxHeartbeats 4000000 in
theorem cex_any (w : World) : Calls Try.prog 5 #[] w fun e w' => e = .returned (.bool true) ∧ Below w.heap.size w w' := by
  have cp := fun w => parseF_any 255 128 0 128 (by omega) (by omega) (by omega) (by omega) (by omega) (by omega) (by omega) (by omega) w
  have cf := fun w => formatI_any 255 128 0 128 (by omega) (by omega) (by omega) (by omega) (by omega) (by omega) (by omega) (by omega) w
  have cq := fun w => premul_any 255 128 0 128 (by omega) (by omega) (by omega) (by omega) (by omega) (by omega) (by omega) (by omega) w
  rw [ex_fmt] at cp cf
  rw [show mn8 255 128 = 128 by decide, show mn8 128 128 = 64 by decide, show mn8 0 128 = 0 by decide] at cq
  go_enter Try.func5, Try.ntmps5
  go_wp2_with (first | (go_at_call 8; (with_reducible refine (cp _).mono ?_); rintro e w1 ⟨rfl, hb1⟩; have k1_g1_0 : w1.cell? ⟨w.heap.size, 0, none⟩ = some (.int .u8 255) := bcs hb1 (by go_simp); have g1_g1_0 : w1.frozen? ⟨w.heap.size, 0, none⟩ = false := bfs hb1 (v := .int .u8 255) (by go_simp) (by go_simp); have k1_g1_1 : w1.cell? ⟨w.heap.size, 1, none⟩ = some (.int .u8 128) := bcs hb1 (by go_simp); have g1_g1_1 : w1.frozen? ⟨w.heap.size, 1, none⟩ = false := bfs hb1 (v := .int .u8 128) (by go_simp) (by go_simp); have k1_g1_2 : w1.cell? ⟨w.heap.size, 2, none⟩ = some (.int .u8 0) := bcs hb1 (by go_simp); have g1_g1_2 : w1.frozen? ⟨w.heap.size, 2, none⟩ = false := bfs hb1 (v := .int .u8 0) (by go_simp) (by go_simp); have k1_g1_3 : w1.cell? ⟨w.heap.size, 3, none⟩ = some (.int .u8 128) := bcs hb1 (by go_simp); have g1_g1_3 : w1.frozen? ⟨w.heap.size, 3, none⟩ = false := bfs hb1 (v := .int .u8 128) (by go_simp) (by go_simp); have q1_g1 : w.heap.size < w1.heap.size := qlt k1_g1_0; have x1_g1 : ¬ w.heap.size = w1.heap.size := qne k1_g1_0; have y1_g1 : ¬ w1.heap.size = w.heap.size := fun h => qne k1_g1_0 h.symm; have B1 : Below w.heap.size w w1 := bel_step (by repeat (first | with_reducible exact Below.refl _ _ | fail | with_reducible apply below_drewN | with_reducible apply Below.drew | (with_reducible refine Below.alloc ?_ (by first | (simp; done) | (simp; omega) | omega) _) | (with_reducible refine Below.setCell ?_ (by first | (simp; done) | (simp; omega) | omega) _))) hb1; have z1 : w.heap.size + 1 ≤ w1.heap.size := Nat.le_trans (by first | with_reducible assumption | (simp; done) | (simp; omega)) hb1.size; clear hb1) | (go_at_call 9; (with_reducible refine (cq _).mono ?_); rintro e w2 ⟨rfl, hb2⟩; have k2_g1_0 : w2.cell? ⟨w.heap.size, 0, none⟩ = some (.int .u8 255) := bcs hb2 (by go_simp); have g2_g1_0 : w2.frozen? ⟨w.heap.size, 0, none⟩ = false := bfs hb2 (v := .int .u8 255) (by go_simp) (by go_simp); have k2_g1_1 : w2.cell? ⟨w.heap.size, 1, none⟩ = some (.int .u8 128) := bcs hb2 (by go_simp); have g2_g1_1 : w2.frozen? ⟨w.heap.size, 1, none⟩ = false := bfs hb2 (v := .int .u8 128) (by go_simp) (by go_simp); have k2_g1_2 : w2.cell? ⟨w.heap.size, 2, none⟩ = some (.int .u8 0) := bcs hb2 (by go_simp); have g2_g1_2 : w2.frozen? ⟨w.heap.size, 2, none⟩ = false := bfs hb2 (v := .int .u8 0) (by go_simp) (by go_simp); have k2_g1_3 : w2.cell? ⟨w.heap.size, 3, none⟩ = some (.int .u8 128) := bcs hb2 (by go_simp); have g2_g1_3 : w2.frozen? ⟨w.heap.size, 3, none⟩ = false := bfs hb2 (v := .int .u8 128) (by go_simp) (by go_simp); have k2_g2_0 : w2.cell? ⟨w1.heap.size, 0, none⟩ = some (.int .u8 255) := bcs hb2 (by go_simp); have g2_g2_0 : w2.frozen? ⟨w1.heap.size, 0, none⟩ = false := bfs hb2 (v := .int .u8 255) (by go_simp) (by go_simp); have k2_g2_1 : w2.cell? ⟨w1.heap.size, 1, none⟩ = some (.int .u8 128) := bcs hb2 (by go_simp); have g2_g2_1 : w2.frozen? ⟨w1.heap.size, 1, none⟩ = false := bfs hb2 (v := .int .u8 128) (by go_simp) (by go_simp); have k2_g2_2 : w2.cell? ⟨w1.heap.size, 2, none⟩ = some (.int .u8 0) := bcs hb2 (by go_simp); have g2_g2_2 : w2.frozen? ⟨w1.heap.size, 2, none⟩ = false := bfs hb2 (v := .int .u8 0) (by go_simp) (by go_simp); have k2_g2_3 : w2.cell? ⟨w1.heap.size, 3, none⟩ = some (.int .u8 128) := bcs hb2 (by go_simp); have g2_g2_3 : w2.frozen? ⟨w1.heap.size, 3, none⟩ = false := bfs hb2 (v := .int .u8 128) (by go_simp) (by go_simp); have q2_g1 : w.heap.size < w2.heap.size := qlt k2_g1_0; have x2_g1 : ¬ w.heap.size = w2.heap.size := qne k2_g1_0; have y2_g1 : ¬ w2.heap.size = w.heap.size := fun h => qne k2_g1_0 h.symm; have q2_g2 : w1.heap.size < w2.heap.size := qlt k2_g2_0; have x2_g2 : ¬ w1.heap.size = w2.heap.size := qne k2_g2_0; have y2_g2 : ¬ w2.heap.size = w1.heap.size := fun h => qne k2_g2_0 h.symm; have B2 : Below w.heap.size w w2 := bel_step (by repeat (first | with_reducible exact Below.refl _ _ | with_reducible exact B1 | with_reducible apply below_drewN | with_reducible apply Below.drew | (with_reducible refine Below.alloc ?_ (by first | (simp; done) | (simp; omega) | omega) _) | (with_reducible refine Below.setCell ?_ (by first | (simp; done) | (simp; omega) | omega) _))) hb2; have z2 : w.heap.size + 1 ≤ w2.heap.size := Nat.le_trans (by first | with_reducible assumption | (simp; done) | (simp; omega)) hb2.size; clear hb2; (try clear k1_g1_0); (try clear g1_g1_0); (try clear k1_g1_1); (try clear g1_g1_1); (try clear k1_g1_2); (try clear g1_g1_2); (try clear k1_g1_3); (try clear g1_g1_3); (try clear k1_g2_0); (try clear g1_g2_0); (try clear k1_g2_1); (try clear g1_g2_1); (try clear k1_g2_2); (try clear g1_g2_2); (try clear k1_g2_3); (try clear g1_g2_3); (try clear B1); (try clear z1)) | (go_at_call 10; (with_reducible refine (cf _).mono ?_); rintro e w3 ⟨rfl, hb3⟩; have k3_g1_0 : w3.cell? ⟨w.heap.size, 0, none⟩ = some (.int .u8 255) := bcs hb3 (by go_simp); have g3_g1_0 : w3.frozen? ⟨w.heap.size, 0, none⟩ = false := bfs hb3 (v := .int .u8 255) (by go_simp) (by go_simp); have k3_g1_1 : w3.cell? ⟨w.heap.size, 1, none⟩ = some (.int .u8 128) := bcs hb3 (by go_simp); have g3_g1_1 : w3.frozen? ⟨w.heap.size, 1, none⟩ = false := bfs hb3 (v := .int .u8 128) (by go_simp) (by go_simp); have k3_g1_2 : w3.cell? ⟨w.heap.size, 2, none⟩ = some (.int .u8 0) := bcs hb3 (by go_simp); have g3_g1_2 : w3.frozen? ⟨w.heap.size, 2, none⟩ = false := bfs hb3 (v := .int .u8 0) (by go_simp) (by go_simp); have k3_g1_3 : w3.cell? ⟨w.heap.size, 3, none⟩ = some (.int .u8 128) := bcs hb3 (by go_simp); have g3_g1_3 : w3.frozen? ⟨w.heap.size, 3, none⟩ = false := bfs hb3 (v := .int .u8 128) (by go_simp) (by go_simp); have k3_g2_0 : w3.cell? ⟨w1.heap.size, 0, none⟩ = some (.int .u8 255) := bcs hb3 (by go_simp); have g3_g2_0 : w3.frozen? ⟨w1.heap.size, 0, none⟩ = false := bfs hb3 (v := .int .u8 255) (by go_simp) (by go_simp); have k3_g2_1 : w3.cell? ⟨w1.heap.size, 1, none⟩ = some (.int .u8 128) := bcs hb3 (by go_simp); have g3_g2_1 : w3.frozen? ⟨w1.heap.size, 1, none⟩ = false := bfs hb3 (v := .int .u8 128) (by go_simp) (by go_simp); have k3_g2_2 : w3.cell? ⟨w1.heap.size, 2, none⟩ = some (.int .u8 0) := bcs hb3 (by go_simp); have g3_g2_2 : w3.frozen? ⟨w1.heap.size, 2, none⟩ = false := bfs hb3 (v := .int .u8 0) (by go_simp) (by go_simp); have k3_g2_3 : w3.cell? ⟨w1.heap.size, 3, none⟩ = some (.int .u8 128) := bcs hb3 (by go_simp); have g3_g2_3 : w3.frozen? ⟨w1.heap.size, 3, none⟩ = false := bfs hb3 (v := .int .u8 128) (by go_simp) (by go_simp); have q3_g1 : w.heap.size < w3.heap.size := qlt k3_g1_0; have x3_g1 : ¬ w.heap.size = w3.heap.size := qne k3_g1_0; have y3_g1 : ¬ w3.heap.size = w.heap.size := fun h => qne k3_g1_0 h.symm; have q3_g2 : w1.heap.size < w3.heap.size := qlt k3_g2_0; have x3_g2 : ¬ w1.heap.size = w3.heap.size := qne k3_g2_0; have y3_g2 : ¬ w3.heap.size = w1.heap.size := fun h => qne k3_g2_0 h.symm; have B3 : Below w.heap.size w w3 := bel_step (by repeat (first | with_reducible exact Below.refl _ _ | with_reducible exact B2 | with_reducible apply below_drewN | with_reducible apply Below.drew | (with_reducible refine Below.alloc ?_ (by first | (simp; done) | (simp; omega) | omega) _) | (with_reducible refine Below.setCell ?_ (by first | (simp; done) | (simp; omega) | omega) _))) hb3; have z3 : w.heap.size + 1 ≤ w3.heap.size := Nat.le_trans (by first | with_reducible assumption | (simp; done) | (simp; omega)) hb3.size; clear hb3; (try clear k2_g1_0); (try clear g2_g1_0); (try clear k2_g1_1); (try clear g2_g1_1); (try clear k2_g1_2); (try clear g2_g1_2); (try clear k2_g1_3); (try clear g2_g1_3); (try clear k2_g2_0); (try clear g2_g2_0); (try clear k2_g2_1); (try clear g2_g2_1); (try clear k2_g2_2); (try clear g2_g2_2); (try clear k2_g2_3); (try clear g2_g2_3); (try clear B2); (try clear z2); (try clear q2_g1); (try clear x2_g1); (try clear y2_g1); (try clear q2_g2); (try clear x2_g2); (try clear y2_g2)))
  go_ret
  refine ⟨rfl, ?_⟩
  repeat (first | with_reducible exact Below.refl _ _ | with_reducible exact B3 | with_reducible apply below_drewN | with_reducible apply Below.drew | (with_reducible refine Below.alloc ?_ (by first | (simp; done) | (simp; omega) | omega) _) | (with_reducible refine Below.setCell ?_ (by first | (simp; done) | (simp; omega) | omega) _))
end Go.Proofs.Ytmelfdajhnbnlaa
