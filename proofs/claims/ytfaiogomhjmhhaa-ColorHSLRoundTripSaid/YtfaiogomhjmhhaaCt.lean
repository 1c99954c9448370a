import Derived.Test.YtfaiogomhjmhhaaC9
import Derived.WalkKit
import Derived.WalkSpells
import Derived.WalkLawsBesides
import Derived.Lib.Hide
import Derived.Below
import Derived.Deep.QuietTactic
import Derived.BigQuiet
import Derived.Deep.RegionHeld3
import Derived.Deep.DrawnRows
import Derived.Deep.DeepFit
import Derived.IntWalk
namespace Go.Proofs.Ytfaiogomhjmhhaa
open Go.RowKit
set_option linter.unusedVariables false
set_option linter.unusedSimpArgs false
attribute [local go_sem ↓] Go.wp_at_zero Go.wp_at_succ
attribute [local go_sem] rhoF_tmp rhoF_const rhoF_global rhoF_func

set_option maxRecDepth 50000 in
set_option maxHeartbeats 4000000 in
theorem toHSL_gray (r a : Int) (r0 : 0 ≤ r) (r1 : r ≤ 255) (w : World) :
    Calls Try.prog 23 #[.agg #[.int .u8 r, .int .u8 r, .int .u8 r, .int .u8 a]] w fun e w' => e = .returned (.tuple #[.int .i64 0, .int .i64 0, .int .i64 (r + r)]) ∧ Below w.heap.size w w' := by
  have x1 : (if r < r then r else r) = r := by omega
  have x2 : max r r = r := by omega
  have x3 : min r r = r := by omega
  have x4 : r - r = 0 := by omega
  go_enter Try.func23, Try.ntmps23
  go_wp2
  go_quiet (fail)
  go_wp2
  go_ret3
  refine ⟨rfl, ?_⟩
  repeat (first | with_reducible exact Below.refl _ _ | fail | with_reducible apply below_drewN | with_reducible apply Below.drew | (with_reducible refine Below.alloc ?_ (by first | (simp; done) | (simp; omega) | omega) _) | (with_reducible refine Below.setCell ?_ (by first | (simp; done) | (simp; omega) | omega) _))

set_option maxRecDepth 50000 in
set_option maxHeartbeats 4000000 in
theorem toHSL_1 (r g b a lo d l m Q s H : Int) (r0 : 0 ≤ r) (r1 : r ≤ 255) (g0 : 0 ≤ g) (g1 : g ≤ 255) (b0 : 0 ≤ b) (b1 : b ≤ 255) (a0 : 0 ≤ a) (a1 : a ≤ 255)  (hhi : max (max r g) b = r) (hlo : min (min r g) b = lo) (hd : r - lo = d) (d0 : 1 ≤ d) (hl : r + lo = l) (hm : min l (510 - l) = m) (hQ : mdrV (256 * (g - b)) 1 d = Q) (q0 : -256 ≤ Q) (q1 : Q ≤ 256) (hs : mdrV (255 * d) 1 m = s) (hH : modV (Q) 1536 = H) (w : World) :
    Calls Try.prog 23 #[.agg #[.int .u8 r, .int .u8 g, .int .u8 b, .int .u8 a]] w fun e w' => e = .returned (.tuple #[.int .i64 H, .int .i64 s, .int .i64 l]) ∧ Below w.heap.size w w' := by
  obtain ⟨mx, hmx⟩ : ∃ x, max r g = x := ⟨_, rfl⟩
  obtain ⟨mn, hmn⟩ : ∃ x, min r g = x := ⟨_, rfl⟩
  rw [hmx] at hhi
  rw [hmn] at hlo
  have x1 : (if r < g then g else r) = mx := by rw [← hmx]; omega
  have x2 : (if mx < b then b else mx) = r := by omega
  have x3 : max mx b = r := by omega
  have n1 : (if g < r then g else r) = mn := by rw [← hmn]; omega
  have n2 : (if b < mn then b else mn) = lo := by omega
  have n3 : min mn b = lo := by omega
  have m1 : (if 510 - l < l then 510 - l else l) = m := by rw [← hm]; omega
  have c1 := fun w => divRound_any (256 * (g - b)) d (by omega) (by omega) (by omega) (by omega) w
  have c2 := fun w => divRound_any (255 * d) m (by omega) (by omega) (by omega) (by omega) w
  have c3 := fun w => mod_any (Q) 1536 (by omega) (by omega) (by omega) w
  rw [hQ] at c1
  rw [hs] at c2
  rw [hH] at c3
  have dz : (d == 0) = false := by rw [beq_eq_false_iff_ne]; omega
  have dz2 : ¬ d = 0 := by omega
  clear hQ hs hH
  go_enter Try.func23, Try.ntmps23
  go_wp2
  go_quiet (fail)
  go_wp2_with (first | (go_at_call 42; (with_reducible refine (c1 _).mono ?_); rintro e w9 ⟨rfl, nd, rfl⟩) | (go_at_call 42; (with_reducible refine (c2 _).mono ?_); rintro e w9 ⟨rfl, nd, rfl⟩) | (go_at_call 43; (with_reducible refine (c3 _).mono ?_); rintro e w9 ⟨rfl, rfl⟩))
  go_ret3
  refine ⟨rfl, ?_⟩
  repeat (first | with_reducible exact Below.refl _ _ | fail | with_reducible apply below_drewN | with_reducible apply Below.drew | (with_reducible refine Below.alloc ?_ (by first | (simp; done) | (simp; omega) | omega) _) | (with_reducible refine Below.setCell ?_ (by first | (simp; done) | (simp; omega) | omega) _))

set_option maxRecDepth 50000 in
set_option maxHeartbeats 4000000 in
theorem toHSL_2 (r g b a lo d l m Q s H : Int) (r0 : 0 ≤ r) (r1 : r ≤ 255) (g0 : 0 ≤ g) (g1 : g ≤ 255) (b0 : 0 ≤ b) (b1 : b ≤ 255) (a0 : 0 ≤ a) (a1 : a ≤ 255) (ne1 : r < g) (hhi : max (max r g) b = g) (hlo : min (min r g) b = lo) (hd : g - lo = d) (d0 : 1 ≤ d) (hl : g + lo = l) (hm : min l (510 - l) = m) (hQ : mdrV (256 * (b - r)) 1 d = Q) (q0 : -256 ≤ Q) (q1 : Q ≤ 256) (hs : mdrV (255 * d) 1 m = s) (hH : modV (512 + Q) 1536 = H) (w : World) :
    Calls Try.prog 23 #[.agg #[.int .u8 r, .int .u8 g, .int .u8 b, .int .u8 a]] w fun e w' => e = .returned (.tuple #[.int .i64 H, .int .i64 s, .int .i64 l]) ∧ Below w.heap.size w w' := by
  obtain ⟨mx, hmx⟩ : ∃ x, max r g = x := ⟨_, rfl⟩
  obtain ⟨mn, hmn⟩ : ∃ x, min r g = x := ⟨_, rfl⟩
  rw [hmx] at hhi
  rw [hmn] at hlo
  have n2 : (if b < r then b else r) = lo := by omega
  have n4 : (if g < r then g else r) = r := by omega
  have x1 : (if r < g then g else r) = g := by omega
  have x2 : (if g < b then b else g) = g := by omega
  have m1 : (if 510 - l < l then 510 - l else l) = m := by rw [← hm]; omega
  have c1 := fun w => divRound_any (256 * (b - r)) d (by omega) (by omega) (by omega) (by omega) w
  have c2 := fun w => divRound_any (255 * d) m (by omega) (by omega) (by omega) (by omega) w
  have c3 := fun w => mod_any (512 + Q) 1536 (by omega) (by omega) (by omega) w
  rw [hQ] at c1
  rw [hs] at c2
  rw [hH] at c3
  have dz : (d == 0) = false := by rw [beq_eq_false_iff_ne]; omega
  have dz2 : ¬ d = 0 := by omega
  have e1 : (g == r) = false := by rw [beq_eq_false_iff_ne]; omega
  have e2 : ¬ g = r := by omega
  clear hQ hs hH ne1
  go_enter Try.func23, Try.ntmps23
  go_wp2
  go_quiet (fail)
  go_wp2_with (first | (go_at_call 42; (with_reducible refine (c1 _).mono ?_); rintro e w9 ⟨rfl, nd, rfl⟩) | (go_at_call 42; (with_reducible refine (c2 _).mono ?_); rintro e w9 ⟨rfl, nd, rfl⟩) | (go_at_call 43; (with_reducible refine (c3 _).mono ?_); rintro e w9 ⟨rfl, rfl⟩))
  go_ret3
  refine ⟨rfl, ?_⟩
  repeat (first | with_reducible exact Below.refl _ _ | fail | with_reducible apply below_drewN | with_reducible apply Below.drew | (with_reducible refine Below.alloc ?_ (by first | (simp; done) | (simp; omega) | omega) _) | (with_reducible refine Below.setCell ?_ (by first | (simp; done) | (simp; omega) | omega) _))

set_option maxRecDepth 50000 in
set_option maxHeartbeats 4000000 in
theorem toHSL_3 (r g b a lo d l m Q s H : Int) (r0 : 0 ≤ r) (r1 : r ≤ 255) (g0 : 0 ≤ g) (g1 : g ≤ 255) (b0 : 0 ≤ b) (b1 : b ≤ 255) (a0 : 0 ≤ a) (a1 : a ≤ 255) (ne1 : r < b) (ne2 : g < b) (hhi : max (max r g) b = b) (hlo : min (min r g) b = lo) (hd : b - lo = d) (d0 : 1 ≤ d) (hl : b + lo = l) (hm : min l (510 - l) = m) (hQ : mdrV (256 * (r - g)) 1 d = Q) (q0 : -256 ≤ Q) (q1 : Q ≤ 256) (hs : mdrV (255 * d) 1 m = s) (hH : modV (1024 + Q) 1536 = H) (w : World) :
    Calls Try.prog 23 #[.agg #[.int .u8 r, .int .u8 g, .int .u8 b, .int .u8 a]] w fun e w' => e = .returned (.tuple #[.int .i64 H, .int .i64 s, .int .i64 l]) ∧ Below w.heap.size w w' := by
  obtain ⟨mx, hmx⟩ : ∃ x, max r g = x := ⟨_, rfl⟩
  obtain ⟨mn, hmn⟩ : ∃ x, min r g = x := ⟨_, rfl⟩
  rw [hmx] at hhi
  rw [hmn] at hlo
  have x1 : (if r < g then g else r) = mx := by rw [← hmx]; omega
  have x2 : (if mx < b then b else mx) = b := by omega
  have n1 : (if g < r then g else r) = lo := by omega
  have n2 : (if b < lo then b else lo) = lo := by omega
  have m1 : (if 510 - l < l then 510 - l else l) = m := by rw [← hm]; omega
  have c1 := fun w => divRound_any (256 * (r - g)) d (by omega) (by omega) (by omega) (by omega) w
  have c2 := fun w => divRound_any (255 * d) m (by omega) (by omega) (by omega) (by omega) w
  have c3 := fun w => mod_any (1024 + Q) 1536 (by omega) (by omega) (by omega) w
  rw [hQ] at c1
  rw [hs] at c2
  rw [hH] at c3
  have dz : (d == 0) = false := by rw [beq_eq_false_iff_ne]; omega
  have dz2 : ¬ d = 0 := by omega
  have e1 : (b == r) = false := by rw [beq_eq_false_iff_ne]; omega
  have e2 : ¬ b = r := by omega
  have e3 : (b == g) = false := by rw [beq_eq_false_iff_ne]; omega
  have e4 : ¬ b = g := by omega
  clear hQ hs hH ne1 ne2
  go_enter Try.func23, Try.ntmps23
  go_wp2
  go_quiet (fail)
  go_wp2_with (first | (go_at_call 42; (with_reducible refine (c1 _).mono ?_); rintro e w9 ⟨rfl, nd, rfl⟩) | (go_at_call 42; (with_reducible refine (c2 _).mono ?_); rintro e w9 ⟨rfl, nd, rfl⟩) | (go_at_call 43; (with_reducible refine (c3 _).mono ?_); rintro e w9 ⟨rfl, rfl⟩))
  go_ret3
  refine ⟨rfl, ?_⟩
  repeat (first | with_reducible exact Below.refl _ _ | fail | with_reducible apply below_drewN | with_reducible apply Below.drew | (with_reducible refine Below.alloc ?_ (by first | (simp; done) | (simp; omega) | omega) _) | (with_reducible refine Below.setCell ?_ (by first | (simp; done) | (simp; omega) | omega) _))

set_option maxRecDepth 50000 in
set_option maxHeartbeats 4000000 in
theorem lum_gray (r a : Int) (r0 : 0 ≤ r) (r1 : r ≤ 255) (w : World) :
    Calls Try.prog 25 #[.agg #[.int .u8 r, .int .u8 r, .int .u8 r, .int .u8 a]] w fun e w' => e = .returned (.int .u8 r) ∧ Below w.heap.size w w' := by
  have c1 := fun w => divRound_any (2126 * r + 7152 * r + 722 * r) 10000 (by omega) (by omega) (by omega) (by omega) w
  rw [show 2126 * r + 7152 * r + 722 * r = r * 10000 by omega, rnd_mul r 10000 r0 (by omega) (by omega), show r * 10000 = 2126 * r + 7152 * r + 722 * r by omega] at c1
  go_enter Try.func25, Try.ntmps25
  go_wp2_with (go_at_call 42; (with_reducible refine (c1 _).mono ?_); rintro e w9 ⟨rfl, nd, rfl⟩)
  go_ret
  refine ⟨rfl, ?_⟩
  repeat (first | with_reducible exact Below.refl _ _ | fail | with_reducible apply below_drewN | with_reducible apply Below.drew | (with_reducible refine Below.alloc ?_ (by first | (simp; done) | (simp; omega) | omega) _) | (with_reducible refine Below.setCell ?_ (by first | (simp; done) | (simp; omega) | omega) _))
end Go.Proofs.Ytfaiogomhjmhhaa
